/-
  Joined: L12A, LCanonOnce.
-/
import Derived.Test.YtgmigeehfhkimaaDoorGCnB
import Derived.Test.YtgmigeehfhkimaaDoorGPrA
import Derived.LoopTactic
import Derived.Test.YtgmigeehfhkimaaDoorCards
import Derived.Test.YtgmigeehfhkimaaDoorTie
import Derived.WalkKit
import Derived.ProofKit
import Derived.OpenShut
import Derived.ShutString
import Derived.ChangeOld
import Derived.Below
import Derived.Test.YtgmigeehfhkimaaDoorGTrB
import Derived.Deep.DeepHandedRow
import Derived.Lib.LaidTab
import Derived.Carry
namespace Go.Proofs.YtgmigeehfhkimaaDoor
open Go.RowKit Go.Shelf
set_option linter.unusedVariables false
set_option linter.unusedSimpArgs false
theorem text_sane {n : ND} (h : saneN saneP n = true) : textN n = txN n := by unfold textN; rw [if_pos h]
abbrev onA0 : Oper := { dst := some 27, op := Go.Op.load 26 (Go.Operand.tmp 4), type := 26, pos := "law.go:40", after := #[], guard := none }
abbrev onA1 : Oper := { dst := some 28, op := Go.Op.call { callee := Go.Callee.value (Go.Operand.func 15), args := #[Go.Operand.tmp 27], argTypes := #[26] }, type := 4, pos := "law.go:40", after := #[{ on := 0, ground := Go.Ground.data }], guard := none }
abbrev onA2 : Oper := { dst := some 29, op := Go.Op.unOp Go.UnOp.not 4 (Go.Operand.tmp 28), type := 4, pos := "law.go:40", after := #[{ on := 1, ground := Go.Ground.data }], guard := none }
abbrev onA3 : Oper := { dst := some 30, op := Go.Op.move (Go.Operand.tmp 29), type := 4, pos := "law.go:40", after := #[{ on := 2, ground := Go.Ground.data }, { on := 1, ground := Go.Ground.chain }], guard := none }
abbrev onA4 : Oper := { dst := some 31, op := Go.Op.load 26 (Go.Operand.tmp 4), type := 26, pos := "law.go:40", after := #[{ on := 3, ground := Go.Ground.guard }], guard := some (3, false) }
abbrev onA5 : Oper := { dst := some 32, op := Go.Op.call { callee := Go.Callee.value (Go.Operand.func 13), args := #[Go.Operand.tmp 31], argTypes := #[26] }, type := 4, pos := "law.go:40", after := #[{ on := 4, ground := Go.Ground.data }, { on := 3, ground := Go.Ground.chain }, { on := 3, ground := Go.Ground.guard }], guard := some (3, false) }
abbrev onA6 : Oper := { dst := some 33, op := Go.Op.unOp Go.UnOp.not 4 (Go.Operand.tmp 32), type := 4, pos := "law.go:40", after := #[{ on := 5, ground := Go.Ground.data }, { on := 3, ground := Go.Ground.guard }], guard := some (3, false) }
abbrev onA7 : Oper := { dst := some 34, op := Go.Op.pick (Go.Operand.tmp 30) (Go.Operand.const (Go.Value.bool true)) (Go.Operand.tmp 33), type := 4, pos := "law.go:40", after := #[{ on := 3, ground := Go.Ground.data }, { on := 6, ground := Go.Ground.data }], guard := none }
abbrev onA8 : Oper := { dst := some 35, op := Go.Op.move (Go.Operand.tmp 34), type := 4, pos := "law.go:40", after := #[{ on := 7, ground := Go.Ground.data }, { on := 5, ground := Go.Ground.chain }], guard := none }
abbrev onA9 : Oper := { dst := some 36, op := Go.Op.load 26 (Go.Operand.tmp 4), type := 26, pos := "law.go:40", after := #[{ on := 8, ground := Go.Ground.guard }], guard := some (8, false) }
abbrev onA10 : Oper := { dst := some 37, op := Go.Op.call { callee := Go.Callee.value (Go.Operand.func 11), args := #[Go.Operand.tmp 36], argTypes := #[26] }, type := 26, pos := "law.go:40", after := #[{ on := 9, ground := Go.Ground.data }, { on := 8, ground := Go.Ground.chain }, { on := 8, ground := Go.Ground.guard }], guard := some (8, false) }
abbrev onA11 : Oper := { dst := some 38, op := Go.Op.load 26 (Go.Operand.tmp 4), type := 26, pos := "law.go:40", after := #[{ on := 8, ground := Go.Ground.guard }], guard := some (8, false) }
abbrev onA12 : Oper := { dst := some 39, op := Go.Op.call { callee := Go.Callee.value (Go.Operand.func 10), args := #[Go.Operand.tmp 37, Go.Operand.tmp 38], argTypes := #[26, 26] }, type := 4, pos := "law.go:40", after := #[{ on := 10, ground := Go.Ground.data }, { on := 11, ground := Go.Ground.data }, { on := 10, ground := Go.Ground.chain }, { on := 8, ground := Go.Ground.guard }], guard := some (8, false) }
abbrev onA13 : Oper := { dst := some 40, op := Go.Op.unOp Go.UnOp.not 4 (Go.Operand.tmp 39), type := 4, pos := "law.go:40", after := #[{ on := 12, ground := Go.Ground.data }, { on := 8, ground := Go.Ground.guard }], guard := some (8, false) }
abbrev onA14 : Oper := { dst := some 41, op := Go.Op.pick (Go.Operand.tmp 35) (Go.Operand.const (Go.Value.bool true)) (Go.Operand.tmp 40), type := 4, pos := "law.go:40", after := #[{ on := 8, ground := Go.Ground.data }, { on := 13, ground := Go.Ground.data }], guard := none }
abbrev onA15 : Oper := { dst := some 42, op := Go.Op.move (Go.Operand.tmp 41), type := 4, pos := "law.go:40", after := #[{ on := 14, ground := Go.Ground.data }, { on := 12, ground := Go.Ground.chain }], guard := none }
abbrev onA16 : Oper := { dst := some 43, op := Go.Op.load 26 (Go.Operand.tmp 4), type := 26, pos := "law.go:40", after := #[{ on := 15, ground := Go.Ground.guard }], guard := some (15, false) }
abbrev onA17 : Oper := { dst := some 44, op := Go.Op.call { callee := Go.Callee.value (Go.Operand.func 16), args := #[Go.Operand.tmp 43], argTypes := #[26] }, type := 3, pos := "law.go:40", after := #[{ on := 16, ground := Go.Ground.data }, { on := 15, ground := Go.Ground.chain }, { on := 15, ground := Go.Ground.guard }], guard := some (15, false) }
abbrev onA18 : Oper := { dst := some 45, op := Go.Op.load 26 (Go.Operand.tmp 1), type := 26, pos := "law.go:40", after := #[{ on := 15, ground := Go.Ground.guard }], guard := some (15, false) }
abbrev onA19 : Oper := { dst := some 46, op := Go.Op.call { callee := Go.Callee.value (Go.Operand.func 16), args := #[Go.Operand.tmp 45], argTypes := #[26] }, type := 3, pos := "law.go:40", after := #[{ on := 18, ground := Go.Ground.data }, { on := 17, ground := Go.Ground.chain }, { on := 15, ground := Go.Ground.guard }], guard := some (15, false) }
abbrev onA20 : Oper := { dst := some 47, op := Go.Op.binOp Go.BinOp.gtr 3 (Go.Operand.tmp 44) (Go.Operand.tmp 46) 3, type := 4, pos := "law.go:40", after := #[{ on := 17, ground := Go.Ground.data }, { on := 19, ground := Go.Ground.data }, { on := 15, ground := Go.Ground.guard }], guard := some (15, false) }
abbrev onA21 : Oper := { dst := some 48, op := Go.Op.pick (Go.Operand.tmp 42) (Go.Operand.const (Go.Value.bool true)) (Go.Operand.tmp 47), type := 4, pos := "law.go:40", after := #[{ on := 15, ground := Go.Ground.data }, { on := 20, ground := Go.Ground.data }], guard := none }
abbrev onA22 : Oper := { dst := some 49, op := Go.Op.move (Go.Operand.tmp 48), type := 4, pos := "law.go:40", after := #[{ on := 21, ground := Go.Ground.data }, { on := 19, ground := Go.Ground.chain }], guard := none }
abbrev onA23 : Oper := { dst := some 50, op := Go.Op.load 26 (Go.Operand.tmp 4), type := 26, pos := "law.go:40", after := #[{ on := 22, ground := Go.Ground.guard }], guard := some (22, false) }
abbrev onA24 : Oper := { dst := some 51, op := Go.Op.call { callee := Go.Callee.value (Go.Operand.func 17), args := #[Go.Operand.tmp 50], argTypes := #[26] }, type := 3, pos := "law.go:40", after := #[{ on := 23, ground := Go.Ground.data }, { on := 22, ground := Go.Ground.chain }, { on := 22, ground := Go.Ground.guard }], guard := some (22, false) }
abbrev onA25 : Oper := { dst := some 52, op := Go.Op.binOp Go.BinOp.gtr 3 (Go.Operand.tmp 51) (Go.Operand.const (Go.Value.int Go.IntKind.i64 1)) 3, type := 4, pos := "law.go:40", after := #[{ on := 24, ground := Go.Ground.data }, { on := 22, ground := Go.Ground.guard }], guard := some (22, false) }
abbrev onA26 : Oper := { dst := some 53, op := Go.Op.pick (Go.Operand.tmp 49) (Go.Operand.const (Go.Value.bool true)) (Go.Operand.tmp 52), type := 4, pos := "law.go:40", after := #[{ on := 22, ground := Go.Ground.data }, { on := 25, ground := Go.Ground.data }], guard := none }
abbrev onA27 : Oper := { dst := some 54, op := Go.Op.move (Go.Operand.tmp 53), type := 4, pos := "law.go:40", after := #[{ on := 26, ground := Go.Ground.data }, { on := 24, ground := Go.Ground.chain }], guard := none }
abbrev onA28 : Oper := { dst := some 55, op := Go.Op.load 26 (Go.Operand.tmp 1), type := 26, pos := "law.go:40", after := #[{ on := 27, ground := Go.Ground.guard }], guard := some (27, false) }
abbrev onA29 : Oper := { dst := some 56, op := Go.Op.call { callee := Go.Callee.value (Go.Operand.func 13), args := #[Go.Operand.tmp 55], argTypes := #[26] }, type := 4, pos := "law.go:40", after := #[{ on := 28, ground := Go.Ground.data }, { on := 27, ground := Go.Ground.chain }, { on := 27, ground := Go.Ground.guard }], guard := some (27, false) }
abbrev onA30 : Oper := { dst := some 57, op := Go.Op.load 26 (Go.Operand.tmp 4), type := 26, pos := "law.go:40", after := #[{ on := 27, ground := Go.Ground.guard }], guard := some (27, false) }
abbrev onA31 : Oper := { dst := some 58, op := Go.Op.load 26 (Go.Operand.tmp 1), type := 26, pos := "law.go:40", after := #[{ on := 27, ground := Go.Ground.guard }], guard := some (27, false) }
abbrev onA32 : Oper := { dst := some 59, op := Go.Op.call { callee := Go.Callee.value (Go.Operand.func 10), args := #[Go.Operand.tmp 57, Go.Operand.tmp 58], argTypes := #[26, 26] }, type := 4, pos := "law.go:40", after := #[{ on := 30, ground := Go.Ground.data }, { on := 31, ground := Go.Ground.data }, { on := 29, ground := Go.Ground.chain }, { on := 27, ground := Go.Ground.guard }], guard := some (27, false) }
abbrev onA33 : Oper := { dst := some 60, op := Go.Op.binOp Go.BinOp.neq 4 (Go.Operand.tmp 56) (Go.Operand.tmp 59) 4, type := 4, pos := "law.go:40", after := #[{ on := 29, ground := Go.Ground.data }, { on := 32, ground := Go.Ground.data }, { on := 27, ground := Go.Ground.guard }], guard := some (27, false) }
abbrev onA34 : Oper := { dst := some 61, op := Go.Op.pick (Go.Operand.tmp 54) (Go.Operand.const (Go.Value.bool true)) (Go.Operand.tmp 60), type := 4, pos := "law.go:40", after := #[{ on := 27, ground := Go.Ground.data }, { on := 33, ground := Go.Ground.data }], guard := none }
abbrev onB0 : Oper := { dst := some 83, op := Go.Op.fieldAddr 26 (Go.Operand.tmp 4) 4, type := 0, pos := "law.go:47", after := #[], guard := none }
abbrev onB1 : Oper := { dst := some 84, op := Go.Op.load 24 (Go.Operand.tmp 83), type := 24, pos := "law.go:47", after := #[{ on := 0, ground := Go.Ground.data }], guard := none }
abbrev onB2 : Oper := { dst := some 85, op := Go.Op.move (Go.Operand.tmp 5), type := 3, pos := "law.go:47", after := #[], guard := none }
abbrev onB3 : Oper := { dst := some 86, op := Go.Op.binOp Go.BinOp.sub 3 (Go.Operand.tmp 85) (Go.Operand.const (Go.Value.int Go.IntKind.i64 1)) 3, type := 3, pos := "law.go:47", after := #[{ on := 2, ground := Go.Ground.data }], guard := none }
abbrev onB4 : Oper := { dst := some 87, op := Go.Op.indexAddr 24 (Go.Operand.tmp 84) (Go.Operand.tmp 86), type := 0, pos := "law.go:47", after := #[{ on := 1, ground := Go.Ground.data }, { on := 3, ground := Go.Ground.data }], guard := none }
abbrev onB5 : Oper := { dst := some 88, op := Go.Op.load 26 (Go.Operand.tmp 87), type := 26, pos := "law.go:47", after := #[{ on := 4, ground := Go.Ground.data }], guard := none }
abbrev onB6 : Oper := { dst := some 89, op := Go.Op.call { callee := Go.Callee.value (Go.Operand.func 18), args := #[Go.Operand.tmp 88], argTypes := #[26] }, type := 9, pos := "law.go:47", after := #[{ on := 5, ground := Go.Ground.data }], guard := none }
abbrev onB7 : Oper := { dst := some 90, op := Go.Op.fieldAddr 26 (Go.Operand.tmp 4) 4, type := 0, pos := "law.go:47", after := #[], guard := none }
abbrev onB8 : Oper := { dst := some 91, op := Go.Op.load 24 (Go.Operand.tmp 90), type := 24, pos := "law.go:47", after := #[{ on := 7, ground := Go.Ground.data }], guard := none }
abbrev onB9 : Oper := { dst := some 92, op := Go.Op.move (Go.Operand.tmp 5), type := 3, pos := "law.go:47", after := #[], guard := none }
abbrev onB10 : Oper := { dst := some 93, op := Go.Op.indexAddr 24 (Go.Operand.tmp 91) (Go.Operand.tmp 92), type := 0, pos := "law.go:47", after := #[{ on := 8, ground := Go.Ground.data }, { on := 9, ground := Go.Ground.data }], guard := none }
abbrev onB11 : Oper := { dst := some 94, op := Go.Op.load 26 (Go.Operand.tmp 93), type := 26, pos := "law.go:47", after := #[{ on := 10, ground := Go.Ground.data }], guard := none }
abbrev onB12 : Oper := { dst := some 95, op := Go.Op.call { callee := Go.Callee.value (Go.Operand.func 18), args := #[Go.Operand.tmp 94], argTypes := #[26] }, type := 9, pos := "law.go:47", after := #[{ on := 11, ground := Go.Ground.data }, { on := 6, ground := Go.Ground.chain }], guard := none }
abbrev onB13 : Oper := { dst := some 96, op := Go.Op.binOp Go.BinOp.geq 9 (Go.Operand.tmp 89) (Go.Operand.tmp 95) 9, type := 4, pos := "law.go:47", after := #[{ on := 6, ground := Go.Ground.data }, { on := 12, ground := Go.Ground.data }], guard := none }
set_option maxHeartbeats 16000000 in
set_option maxRecDepth 100000 in
theorem conce_long (n : ND) (un : Value) (w : World) (hn : NodesAt w un n.l) (T : TabSH w) (hf : fewG n = false) :
    Calls Tryd.prog 4 #[ndV n un] w fun e w' => e = .returned (.bool true) ∧ Kp w w' := by
  have AW := Lib.hid (fun w1 (kk : Kp w w1) => awake12 w1 (T.kp kk))
  have FW := Lib.hid (fun w1 (kk : Kp w w1) => rfewG_any n un w1 (hn.kp kk))
  rw [hf] at FW
  clear T hf
  obtain ⟨adn, cpn, rfl⟩ := hn.slice
  obtain ⟨kn, pkn, yn, mn, qn, an, tn, ln, rfl⟩ := nd_dest n
  unfold ndV at *
  simp only [ND.k, ND.p, ND.a, ND.t, ND.l] at *
  obtain ⟨W0, hW⟩ : ∃ W0, W0 = w.alloc (.cells #[.int .i64 kn, .int .i64 pkn, .string yn, .string mn, .string qn, .bool an, .bool tn, .slice adn ln.length cpn] 26) := ⟨_, rfl⟩
  have K00 := Lib.hid (show Kp w W0 by rw [hW]; exact Kp.alloc _ _)
  have HB := Lib.hid (fun w1 (k : Kp W0 w1) => show w1.cell? ⟨w.heap.size, 0, none⟩ = some (.int .i64 kn) ∧ w1.cell? ⟨w.heap.size, 1, none⟩ = some (.int .i64 pkn) ∧ w1.cell? ⟨w.heap.size, 2, none⟩ = some (.string yn) ∧ w1.cell? ⟨w.heap.size, 3, none⟩ = some (.string mn) ∧ w1.cell? ⟨w.heap.size, 4, none⟩ = some (.string qn) ∧ w1.cell? ⟨w.heap.size, 5, none⟩ = some (.bool an) ∧ w1.cell? ⟨w.heap.size, 6, none⟩ = some (.bool tn) ∧ w1.cell? ⟨w.heap.size, 7, none⟩ = some (.slice adn ln.length cpn) from ⟨cell_up k (show W0.cell? ⟨w.heap.size, 0, none⟩ = some (.int .i64 kn) by rw [hW]; simp), cell_up k (show W0.cell? ⟨w.heap.size, 1, none⟩ = some (.int .i64 pkn) by rw [hW]; simp), cell_up k (show W0.cell? ⟨w.heap.size, 2, none⟩ = some (.string yn) by rw [hW]; simp), cell_up k (show W0.cell? ⟨w.heap.size, 3, none⟩ = some (.string mn) by rw [hW]; simp), cell_up k (show W0.cell? ⟨w.heap.size, 4, none⟩ = some (.string qn) by rw [hW]; simp), cell_up k (show W0.cell? ⟨w.heap.size, 5, none⟩ = some (.bool an) by rw [hW]; simp), cell_up k (show W0.cell? ⟨w.heap.size, 6, none⟩ = some (.bool tn) by rw [hW]; simp), cell_up k (show W0.cell? ⟨w.heap.size, 7, none⟩ = some (.slice adn ln.length cpn) by rw [hW]; simp)⟩)
  obtain ⟨c0, c1, c2, c3, c4, c5, c6, c7⟩ := HB.out W0 (Kp.refl _)
  have K0 := Lib.hid (Kp.refl W0)
  have HW := Lib.hid hW
  clear hW
  go_enter Tryd.func4, Tryd.ntmps4
  go_wp2_with fail
  rw [← HW.out]
  refine (AW.out _ (K00.out.trans (by first | with_reducible exact K0.out | with_reducible exact K0.out.trans (Kp.alloc _ _) | with_reducible exact (K0.out.trans (Kp.alloc _ _)).trans (Kp.alloc _ _) | with_reducible exact ((K0.out.trans (Kp.alloc _ _)).trans (Kp.alloc _ _)).trans (Kp.alloc _ _) | with_reducible exact K0.out.trans (Kp.drew _) | with_reducible exact K0.out.trans (Kp.drewN _ _)))).mono ?_
  rintro e w1 ⟨rfl, kk⟩
  have K1 := Lib.hid ((show Kp W0 _ from (by first | with_reducible exact K0.out | with_reducible exact K0.out.trans (Kp.alloc _ _) | with_reducible exact (K0.out.trans (Kp.alloc _ _)).trans (Kp.alloc _ _) | with_reducible exact ((K0.out.trans (Kp.alloc _ _)).trans (Kp.alloc _ _)).trans (Kp.alloc _ _) | with_reducible exact K0.out.trans (Kp.drew _) | with_reducible exact K0.out.trans (Kp.drewN _ _))).trans kk)
  clear kk
  clear c0 c1 c2 c3 c4 c5 c6 c7
  obtain ⟨c0, c1, c2, c3, c4, c5, c6, c7⟩ := HB.out w1 K1.out
  go_wp2_with fail
  refine (FW.out _ (K00.out.trans (by first | with_reducible exact K1.out | with_reducible exact K1.out.trans (Kp.alloc _ _) | with_reducible exact (K1.out.trans (Kp.alloc _ _)).trans (Kp.alloc _ _) | with_reducible exact ((K1.out.trans (Kp.alloc _ _)).trans (Kp.alloc _ _)).trans (Kp.alloc _ _) | with_reducible exact K1.out.trans (Kp.drew _) | with_reducible exact K1.out.trans (Kp.drewN _ _)))).mono ?_
  rintro e w2 ⟨rfl, kk⟩
  have K2 := Lib.hid ((show Kp W0 _ from (by first | with_reducible exact K1.out | with_reducible exact K1.out.trans (Kp.alloc _ _) | with_reducible exact (K1.out.trans (Kp.alloc _ _)).trans (Kp.alloc _ _) | with_reducible exact ((K1.out.trans (Kp.alloc _ _)).trans (Kp.alloc _ _)).trans (Kp.alloc _ _) | with_reducible exact K1.out.trans (Kp.drew _) | with_reducible exact K1.out.trans (Kp.drewN _ _))).trans kk)
  clear kk
  clear c0 c1 c2 c3 c4 c5 c6 c7
  obtain ⟨c0, c1, c2, c3, c4, c5, c6, c7⟩ := HB.out w2 K2.out
  go_wp2
  go_ret
  exact ⟨rfl, K00.out.trans K2.out⟩
set_option maxHeartbeats 16000000 in
set_option maxRecDepth 100000 in
theorem conce_no (n : ND) (un : Value) (w : World) (hn : NodesAt w un n.l) (T : TabSH w) (hf : fewG n = true) (hs : saneN saneP n = false) :
    Calls Tryd.prog 4 #[ndV n un] w fun e w' => e = .returned (.bool true) ∧ Kp w w' := by
  have AW := Lib.hid (fun w1 (kk : Kp w w1) => awake12 w1 (T.kp kk))
  have FW := Lib.hid (fun w1 (kk : Kp w w1) => rfewG_any n un w1 (hn.kp kk))
  rw [hf] at FW
  have SN := Lib.hid (fun w1 (kk : Kp w w1) => tSaneG_any n un w1 (hn.kp kk) (T.kp kk))
  rw [hs] at SN
  have CN := Lib.hid (fun w1 (kk : Kp w w1) => ccan_any n un w1 (hn.kp kk) (T.kp kk))
  have IN := Lib.hid (fun w1 (kk : Kp w w1) => cis_any n un w1 (hn.kp kk) (T.kp kk))
  rw [canF_no hs] at CN
  rw [isN_no hs] at IN
  have SM := Lib.hid (fun ad c w1 => tSame_any nd0 nd0 (.slice ad 0 c) (.slice none 0 0) w1 (.none _ _) (.none _ _) (by decide))
  rw [same_refl] at SM
  unfold nd0 ndV at CN SM
  simp only [ND.k, ND.p, ND.a, ND.t, ND.l] at CN SM
  clear T hf hs
  obtain ⟨adn, cpn, rfl⟩ := hn.slice
  obtain ⟨kn, pkn, yn, mn, qn, an, tn, ln, rfl⟩ := nd_dest n
  unfold ndV at *
  simp only [ND.k, ND.p, ND.a, ND.t, ND.l] at *
  obtain ⟨W0, hW⟩ : ∃ W0, W0 = w.alloc (.cells #[.int .i64 kn, .int .i64 pkn, .string yn, .string mn, .string qn, .bool an, .bool tn, .slice adn ln.length cpn] 26) := ⟨_, rfl⟩
  have K00 := Lib.hid (show Kp w W0 by rw [hW]; exact Kp.alloc _ _)
  have HB := Lib.hid (fun w1 (k : Kp W0 w1) => show w1.cell? ⟨w.heap.size, 0, none⟩ = some (.int .i64 kn) ∧ w1.cell? ⟨w.heap.size, 1, none⟩ = some (.int .i64 pkn) ∧ w1.cell? ⟨w.heap.size, 2, none⟩ = some (.string yn) ∧ w1.cell? ⟨w.heap.size, 3, none⟩ = some (.string mn) ∧ w1.cell? ⟨w.heap.size, 4, none⟩ = some (.string qn) ∧ w1.cell? ⟨w.heap.size, 5, none⟩ = some (.bool an) ∧ w1.cell? ⟨w.heap.size, 6, none⟩ = some (.bool tn) ∧ w1.cell? ⟨w.heap.size, 7, none⟩ = some (.slice adn ln.length cpn) from ⟨cell_up k (show W0.cell? ⟨w.heap.size, 0, none⟩ = some (.int .i64 kn) by rw [hW]; simp), cell_up k (show W0.cell? ⟨w.heap.size, 1, none⟩ = some (.int .i64 pkn) by rw [hW]; simp), cell_up k (show W0.cell? ⟨w.heap.size, 2, none⟩ = some (.string yn) by rw [hW]; simp), cell_up k (show W0.cell? ⟨w.heap.size, 3, none⟩ = some (.string mn) by rw [hW]; simp), cell_up k (show W0.cell? ⟨w.heap.size, 4, none⟩ = some (.string qn) by rw [hW]; simp), cell_up k (show W0.cell? ⟨w.heap.size, 5, none⟩ = some (.bool an) by rw [hW]; simp), cell_up k (show W0.cell? ⟨w.heap.size, 6, none⟩ = some (.bool tn) by rw [hW]; simp), cell_up k (show W0.cell? ⟨w.heap.size, 7, none⟩ = some (.slice adn ln.length cpn) by rw [hW]; simp)⟩)
  obtain ⟨c0, c1, c2, c3, c4, c5, c6, c7⟩ := HB.out W0 (Kp.refl _)
  have K0 := Lib.hid (Kp.refl W0)
  have HW := Lib.hid hW
  clear hW
  go_enter Tryd.func4, Tryd.ntmps4
  go_wp2_with fail
  rw [← HW.out]
  refine (AW.out _ (K00.out.trans (by first | with_reducible exact K0.out | with_reducible exact K0.out.trans (Kp.alloc _ _) | with_reducible exact (K0.out.trans (Kp.alloc _ _)).trans (Kp.alloc _ _) | with_reducible exact ((K0.out.trans (Kp.alloc _ _)).trans (Kp.alloc _ _)).trans (Kp.alloc _ _) | with_reducible exact K0.out.trans (Kp.drew _) | with_reducible exact K0.out.trans (Kp.drewN _ _)))).mono ?_
  rintro e w1 ⟨rfl, kk⟩
  have K1 := Lib.hid ((show Kp W0 _ from (by first | with_reducible exact K0.out | with_reducible exact K0.out.trans (Kp.alloc _ _) | with_reducible exact (K0.out.trans (Kp.alloc _ _)).trans (Kp.alloc _ _) | with_reducible exact ((K0.out.trans (Kp.alloc _ _)).trans (Kp.alloc _ _)).trans (Kp.alloc _ _) | with_reducible exact K0.out.trans (Kp.drew _) | with_reducible exact K0.out.trans (Kp.drewN _ _))).trans kk)
  clear kk
  clear c0 c1 c2 c3 c4 c5 c6 c7
  obtain ⟨c0, c1, c2, c3, c4, c5, c6, c7⟩ := HB.out w1 K1.out
  go_wp2_with fail
  refine (FW.out _ (K00.out.trans (by first | with_reducible exact K1.out | with_reducible exact K1.out.trans (Kp.alloc _ _) | with_reducible exact (K1.out.trans (Kp.alloc _ _)).trans (Kp.alloc _ _) | with_reducible exact ((K1.out.trans (Kp.alloc _ _)).trans (Kp.alloc _ _)).trans (Kp.alloc _ _) | with_reducible exact K1.out.trans (Kp.drew _) | with_reducible exact K1.out.trans (Kp.drewN _ _)))).mono ?_
  rintro e w2 ⟨rfl, kk⟩
  have K2 := Lib.hid ((show Kp W0 _ from (by first | with_reducible exact K1.out | with_reducible exact K1.out.trans (Kp.alloc _ _) | with_reducible exact (K1.out.trans (Kp.alloc _ _)).trans (Kp.alloc _ _) | with_reducible exact ((K1.out.trans (Kp.alloc _ _)).trans (Kp.alloc _ _)).trans (Kp.alloc _ _) | with_reducible exact K1.out.trans (Kp.drew _) | with_reducible exact K1.out.trans (Kp.drewN _ _))).trans kk)
  clear kk
  clear c0 c1 c2 c3 c4 c5 c6 c7
  obtain ⟨c0, c1, c2, c3, c4, c5, c6, c7⟩ := HB.out w2 K2.out
  go_wp2_with fail
  refine (CN.out _ (K00.out.trans (by first | with_reducible exact K2.out | with_reducible exact K2.out.trans (Kp.alloc _ _) | with_reducible exact (K2.out.trans (Kp.alloc _ _)).trans (Kp.alloc _ _) | with_reducible exact ((K2.out.trans (Kp.alloc _ _)).trans (Kp.alloc _ _)).trans (Kp.alloc _ _) | with_reducible exact K2.out.trans (Kp.drew _) | with_reducible exact K2.out.trans (Kp.drewN _ _)))).mono ?_
  rintro e w3 ⟨vc, rfl, hvc, kk⟩
  have K3 := Lib.hid ((show Kp W0 _ from (by first | with_reducible exact K2.out | with_reducible exact K2.out.trans (Kp.alloc _ _) | with_reducible exact (K2.out.trans (Kp.alloc _ _)).trans (Kp.alloc _ _) | with_reducible exact ((K2.out.trans (Kp.alloc _ _)).trans (Kp.alloc _ _)).trans (Kp.alloc _ _) | with_reducible exact K2.out.trans (Kp.drew _) | with_reducible exact K2.out.trans (Kp.drewN _ _))).trans kk)
  obtain ⟨adc, cpc, rfl⟩ := hvc.slice
  simp only [List.length_nil]
  clear kk hvc
  clear c0 c1 c2 c3 c4 c5 c6 c7
  obtain ⟨c0, c1, c2, c3, c4, c5, c6, c7⟩ := HB.out w3 K3.out
  obtain ⟨w4, hV⟩ : ∃ x, x = w3.alloc (.cells #[.int .i64 0, .int .i64 0, .string ⟨#[]⟩, .string ⟨#[]⟩, .string ⟨#[]⟩, .bool false, .bool false, .slice adc 0 cpc] 26) := ⟨_, rfl⟩
  have ka : Kp w3 w4 := by rw [hV]; exact Kp.alloc _ _
  have hgq : w4.heap[w3.heap.size]? = some (.cells #[.int .i64 0, .int .i64 0, .string ⟨#[]⟩, .string ⟨#[]⟩, .string ⟨#[]⟩, .bool false, .bool false, .slice adc 0 cpc] 26 (0, 0)) := by rw [hV]; exact heap_at _ _ _ rfl
  have q0 : w4.cell? ⟨w3.heap.size, 0, none⟩ = some (.int .i64 0) := by simp [World.cell?, hgq]
  have q1 : w4.cell? ⟨w3.heap.size, 1, none⟩ = some (.int .i64 0) := by simp [World.cell?, hgq]
  have q2 : w4.cell? ⟨w3.heap.size, 2, none⟩ = some (.string ⟨#[]⟩) := by simp [World.cell?, hgq]
  have q3 : w4.cell? ⟨w3.heap.size, 3, none⟩ = some (.string ⟨#[]⟩) := by simp [World.cell?, hgq]
  have q4 : w4.cell? ⟨w3.heap.size, 4, none⟩ = some (.string ⟨#[]⟩) := by simp [World.cell?, hgq]
  have q5 : w4.cell? ⟨w3.heap.size, 5, none⟩ = some (.bool false) := by simp [World.cell?, hgq]
  have q6 : w4.cell? ⟨w3.heap.size, 6, none⟩ = some (.bool false) := by simp [World.cell?, hgq]
  have q7 : w4.cell? ⟨w3.heap.size, 7, none⟩ = some (.slice adc 0 cpc) := by simp [World.cell?, hgq]
  have HB2 := Lib.hid (fun w1 (k : Kp w4 w1) => show w1.cell? ⟨w.heap.size, 0, none⟩ = some (.int .i64 kn) ∧ w1.cell? ⟨w.heap.size, 1, none⟩ = some (.int .i64 pkn) ∧ w1.cell? ⟨w.heap.size, 2, none⟩ = some (.string yn) ∧ w1.cell? ⟨w.heap.size, 3, none⟩ = some (.string mn) ∧ w1.cell? ⟨w.heap.size, 4, none⟩ = some (.string qn) ∧ w1.cell? ⟨w.heap.size, 5, none⟩ = some (.bool an) ∧ w1.cell? ⟨w.heap.size, 6, none⟩ = some (.bool tn) ∧ w1.cell? ⟨w.heap.size, 7, none⟩ = some (.slice adn ln.length cpn) ∧ w1.cell? ⟨w3.heap.size, 0, none⟩ = some (.int .i64 0) ∧ w1.cell? ⟨w3.heap.size, 1, none⟩ = some (.int .i64 0) ∧ w1.cell? ⟨w3.heap.size, 2, none⟩ = some (.string ⟨#[]⟩) ∧ w1.cell? ⟨w3.heap.size, 3, none⟩ = some (.string ⟨#[]⟩) ∧ w1.cell? ⟨w3.heap.size, 4, none⟩ = some (.string ⟨#[]⟩) ∧ w1.cell? ⟨w3.heap.size, 5, none⟩ = some (.bool false) ∧ w1.cell? ⟨w3.heap.size, 6, none⟩ = some (.bool false) ∧ w1.cell? ⟨w3.heap.size, 7, none⟩ = some (.slice adc 0 cpc) from ⟨(HB.out w1 (K3.out.trans (ka.trans k))).1, (HB.out w1 (K3.out.trans (ka.trans k))).2.1, (HB.out w1 (K3.out.trans (ka.trans k))).2.2.1, (HB.out w1 (K3.out.trans (ka.trans k))).2.2.2.1, (HB.out w1 (K3.out.trans (ka.trans k))).2.2.2.2.1, (HB.out w1 (K3.out.trans (ka.trans k))).2.2.2.2.2.1, (HB.out w1 (K3.out.trans (ka.trans k))).2.2.2.2.2.2.1, (HB.out w1 (K3.out.trans (ka.trans k))).2.2.2.2.2.2.2, cell_up k q0, cell_up k q1, cell_up k q2, cell_up k q3, cell_up k q4, cell_up k q5, cell_up k q6, cell_up k q7⟩)
  have K01 := Lib.hid (K00.out.trans (K3.out.trans ka))
  have bw := World.block_lt_of_cell? _ _ c0
  simp only at bw
  clear HB K00 hgq  q0 q1 q2 q3 q4 q5 q6 q7
  have HB := HB2
  have K00 := K01
  clear HB2 K01
  have K4 := Lib.hid (Kp.refl w4)
  have Hw4 := Lib.hid hV
  clear hV ka
  go_wp2_with fail
  rw [← Hw4.out]
  clear c0 c1 c2 c3 c4 c5 c6 c7
  obtain ⟨c0, c1, c2, c3, c4, c5, c6, c7, c8, c9, c10, c11, c12, c13, c14, c15⟩ := HB.out w4 (Kp.refl _)
  refine (SN.out _ (K00.out.trans (by first | with_reducible exact K4.out | with_reducible exact K4.out.trans (Kp.alloc _ _) | with_reducible exact (K4.out.trans (Kp.alloc _ _)).trans (Kp.alloc _ _) | with_reducible exact ((K4.out.trans (Kp.alloc _ _)).trans (Kp.alloc _ _)).trans (Kp.alloc _ _) | with_reducible exact K4.out.trans (Kp.drew _) | with_reducible exact K4.out.trans (Kp.drewN _ _)))).mono ?_
  rintro e w5 ⟨rfl, kk⟩
  have K5 := Lib.hid ((show Kp w4 _ from (by first | with_reducible exact K4.out | with_reducible exact K4.out.trans (Kp.alloc _ _) | with_reducible exact (K4.out.trans (Kp.alloc _ _)).trans (Kp.alloc _ _) | with_reducible exact ((K4.out.trans (Kp.alloc _ _)).trans (Kp.alloc _ _)).trans (Kp.alloc _ _) | with_reducible exact K4.out.trans (Kp.drew _) | with_reducible exact K4.out.trans (Kp.drewN _ _))).trans kk)
  clear kk
  clear c0 c1 c2 c3 c4 c5 c6 c7 c8 c9 c10 c11 c12 c13 c14 c15
  obtain ⟨c0, c1, c2, c3, c4, c5, c6, c7, c8, c9, c10, c11, c12, c13, c14, c15⟩ := HB.out w5 K5.out
  go_wp2_with fail
  refine (IN.out _ (K00.out.trans (by first | with_reducible exact K5.out | with_reducible exact K5.out.trans (Kp.alloc _ _) | with_reducible exact (K5.out.trans (Kp.alloc _ _)).trans (Kp.alloc _ _) | with_reducible exact ((K5.out.trans (Kp.alloc _ _)).trans (Kp.alloc _ _)).trans (Kp.alloc _ _) | with_reducible exact K5.out.trans (Kp.drew _) | with_reducible exact K5.out.trans (Kp.drewN _ _)))).mono ?_
  rintro e w6 ⟨rfl, kk⟩
  have K6 := Lib.hid ((show Kp w4 _ from (by first | with_reducible exact K5.out | with_reducible exact K5.out.trans (Kp.alloc _ _) | with_reducible exact (K5.out.trans (Kp.alloc _ _)).trans (Kp.alloc _ _) | with_reducible exact ((K5.out.trans (Kp.alloc _ _)).trans (Kp.alloc _ _)).trans (Kp.alloc _ _) | with_reducible exact K5.out.trans (Kp.drew _) | with_reducible exact K5.out.trans (Kp.drewN _ _))).trans kk)
  clear kk
  clear c0 c1 c2 c3 c4 c5 c6 c7 c8 c9 c10 c11 c12 c13 c14 c15
  obtain ⟨c0, c1, c2, c3, c4, c5, c6, c7, c8, c9, c10, c11, c12, c13, c14, c15⟩ := HB.out w6 K6.out
  go_wp2_with fail
  refine (SM.out _ _ _).mono ?_
  rintro e w7 ⟨rfl, kk⟩
  have K7 := Lib.hid ((show Kp w4 _ from (by first | with_reducible exact K6.out | with_reducible exact K6.out.trans (Kp.alloc _ _) | with_reducible exact (K6.out.trans (Kp.alloc _ _)).trans (Kp.alloc _ _) | with_reducible exact ((K6.out.trans (Kp.alloc _ _)).trans (Kp.alloc _ _)).trans (Kp.alloc _ _) | with_reducible exact K6.out.trans (Kp.drew _) | with_reducible exact K6.out.trans (Kp.drewN _ _))).trans kk)
  clear kk
  clear c0 c1 c2 c3 c4 c5 c6 c7 c8 c9 c10 c11 c12 c13 c14 c15
  obtain ⟨c0, c1, c2, c3, c4, c5, c6, c7, c8, c9, c10, c11, c12, c13, c14, c15⟩ := HB.out w7 K7.out
  go_wp2
  go_ret
  exact ⟨rfl, K00.out.trans K7.out⟩
set_option maxHeartbeats 16000000 in
set_option maxRecDepth 100000 in
theorem conce_one (n : ND) (un : Value) (w : World) (hn : NodesAt w un n.l) (T : TabSH w) (hf : fewG n = true) (hs : saneN saneP n = true) (hk : ¬ (canN n).k = 2) :
    Calls Tryd.prog 4 #[ndV n un] w fun e w' => e = .returned (.bool true) ∧ Kp w w' := by
  have AW := Lib.hid (fun w1 (kk : Kp w w1) => awake12 w1 (T.kp kk))
  have FW := Lib.hid (fun w1 (kk : Kp w w1) => rfewG_any n un w1 (hn.kp kk))
  rw [hf] at FW
  have SN := Lib.hid (fun w1 (kk : Kp w w1) => tSaneG_any n un w1 (hn.kp kk) (T.kp kk))
  rw [hs] at SN
  have CN := Lib.hid (fun w1 (kk : Kp w w1) => ccan_any n un w1 (hn.kp kk) (T.kp kk))
  have IN := Lib.hid (fun w1 (kk : Kp w w1) => cis_any n un w1 (hn.kp kk) (T.kp kk))
  rw [canF_yes hs] at CN
  rw [isN_yes hs] at IN
  have cs := can_sane hs
  have SC := Lib.hid (fun v w1 (hv : NodesAt w1 v (canN n).l) (kk : Kp w w1) => tSaneG_any (canN n) v w1 hv (T.kp kk))
  rw [cs.1] at SC
  have IC := Lib.hid (fun v w1 (hv : NodesAt w1 v (canN n).l) (kk : Kp w w1) => cis_any (canN n) v w1 hv (T.kp kk))
  rw [isN_can hs] at IC
  have CC := Lib.hid (fun v w1 (hv : NodesAt w1 v (canN n).l) (kk : Kp w w1) => ccan_any (canN n) v w1 hv (T.kp kk))
  rw [canF_yes cs.1, can_can hs] at CC
  have c64 := (cn_right hs).2
  have SM := Lib.hid (fun v u w1 (hv : NodesAt w1 v (canN n).l) (hu : NodesAt w1 u (canN n).l) => tSame_any (canN n) (canN n) v u w1 hv hu (by omega))
  rw [same_refl] at SM
  have TC := Lib.hid (fun v w1 (hv : NodesAt w1 v (canN n).l) => tCount_any (canN n) v w1 hv (by omega))
  have TM := Lib.hid (fun w1 (kk : Kp w w1) => tCount_any n un w1 (hn.kp kk) (by omega))
  have TD := Lib.hid (fun v w1 (hv : NodesAt w1 v (canN n).l) => tDeep_any (canN n) v w1 hv (by omega))
  have SX := Lib.hid (fun v w1 (hv : NodesAt w1 v (canN n).l) (kk : Kp w w1) => tSame_any (canN n) n v un w1 hv (hn.kp kk) (by omega))
  have dp := can_dep hs
  have LM := Lib.hid (show (canN n).l.length ≤ 64 from by
    have a := len_cntL (canN n).l
    have b : cntN (canN n) = cntL (canN n).l + 1 := (by rw [eta_nd (canN n)]; rfl)
    have c := cs.2.1
    omega)
  have g1 : decide ((cntN (canN n) : Int) > (cntN n : Int)) = false := decide_eq_false (by omega)
  have g2 : decide ((depN (canN n) : Int) > 1) = false := decide_eq_false (by omega)
  have g3 : decide (cntN n < cntN (canN n)) = false := decide_eq_false (by omega)
  have g4 : decide (1 < depN (canN n)) = false := decide_eq_false (by omega)
  have g5 : cntN (canN n) ≤ cntN n := cs.2.1
  generalize sameN (canN n) n = r at *
  generalize cntN n = nn at *
  generalize depN (canN n) = dd at *
  have HK := Lib.hid (fun h : (canN n).k = 2 => (cs.2.2.2.2 h).2.1)
  have HR := Lib.hid (fun (h : (canN n).k = 2) (i : Nat) (hi : i + 1 < (canN n).l.length) => rise_at (can_rise hs h) hi)
  have HE := Lib.hid (fun (h : (canN n).k = 2) (i : Nat) (hi : i < (canN n).l.length) => can_elem hs h hi)
  have cc := cs.2.1
  clear cs dp
  generalize cntN (canN n) = nc at *
  generalize canN n = c at *
  obtain ⟨k1, pk1, y1, m1, s1, a1, t1, l1, rfl⟩ := nd_dest c
  simp only [ND.k, ND.l] at HK HR HE LM hk SC IC CC SM TC TD SX CN
  clear T hf hs cc c64
  have qk : (k1 == 2) = false := beq_eq_false_iff_ne.2 hk
  clear hk HK HR HE
  obtain ⟨adn, cpn, rfl⟩ := hn.slice
  obtain ⟨kn, pkn, yn, mn, qn, an, tn, ln, rfl⟩ := nd_dest n
  unfold ndV at *
  simp only [ND.k, ND.p, ND.a, ND.t, ND.l] at *
  obtain ⟨W0, hW⟩ : ∃ W0, W0 = w.alloc (.cells #[.int .i64 kn, .int .i64 pkn, .string yn, .string mn, .string qn, .bool an, .bool tn, .slice adn ln.length cpn] 26) := ⟨_, rfl⟩
  have K00 := Lib.hid (show Kp w W0 by rw [hW]; exact Kp.alloc _ _)
  have HB := Lib.hid (fun w1 (k : Kp W0 w1) => show w1.cell? ⟨w.heap.size, 0, none⟩ = some (.int .i64 kn) ∧ w1.cell? ⟨w.heap.size, 1, none⟩ = some (.int .i64 pkn) ∧ w1.cell? ⟨w.heap.size, 2, none⟩ = some (.string yn) ∧ w1.cell? ⟨w.heap.size, 3, none⟩ = some (.string mn) ∧ w1.cell? ⟨w.heap.size, 4, none⟩ = some (.string qn) ∧ w1.cell? ⟨w.heap.size, 5, none⟩ = some (.bool an) ∧ w1.cell? ⟨w.heap.size, 6, none⟩ = some (.bool tn) ∧ w1.cell? ⟨w.heap.size, 7, none⟩ = some (.slice adn ln.length cpn) from ⟨cell_up k (show W0.cell? ⟨w.heap.size, 0, none⟩ = some (.int .i64 kn) by rw [hW]; simp), cell_up k (show W0.cell? ⟨w.heap.size, 1, none⟩ = some (.int .i64 pkn) by rw [hW]; simp), cell_up k (show W0.cell? ⟨w.heap.size, 2, none⟩ = some (.string yn) by rw [hW]; simp), cell_up k (show W0.cell? ⟨w.heap.size, 3, none⟩ = some (.string mn) by rw [hW]; simp), cell_up k (show W0.cell? ⟨w.heap.size, 4, none⟩ = some (.string qn) by rw [hW]; simp), cell_up k (show W0.cell? ⟨w.heap.size, 5, none⟩ = some (.bool an) by rw [hW]; simp), cell_up k (show W0.cell? ⟨w.heap.size, 6, none⟩ = some (.bool tn) by rw [hW]; simp), cell_up k (show W0.cell? ⟨w.heap.size, 7, none⟩ = some (.slice adn ln.length cpn) by rw [hW]; simp)⟩)
  obtain ⟨c0, c1, c2, c3, c4, c5, c6, c7⟩ := HB.out W0 (Kp.refl _)
  have K0 := Lib.hid (Kp.refl W0)
  have HW := Lib.hid hW
  clear hW
  go_enter Tryd.func4, Tryd.ntmps4
  go_wp2_with fail
  rw [← HW.out]
  refine (AW.out _ (K00.out.trans (by first | with_reducible exact K0.out | with_reducible exact K0.out.trans (Kp.alloc _ _) | with_reducible exact (K0.out.trans (Kp.alloc _ _)).trans (Kp.alloc _ _) | with_reducible exact ((K0.out.trans (Kp.alloc _ _)).trans (Kp.alloc _ _)).trans (Kp.alloc _ _) | with_reducible exact K0.out.trans (Kp.drew _) | with_reducible exact K0.out.trans (Kp.drewN _ _)))).mono ?_
  rintro e w1 ⟨rfl, kk⟩
  have K1 := Lib.hid ((show Kp W0 _ from (by first | with_reducible exact K0.out | with_reducible exact K0.out.trans (Kp.alloc _ _) | with_reducible exact (K0.out.trans (Kp.alloc _ _)).trans (Kp.alloc _ _) | with_reducible exact ((K0.out.trans (Kp.alloc _ _)).trans (Kp.alloc _ _)).trans (Kp.alloc _ _) | with_reducible exact K0.out.trans (Kp.drew _) | with_reducible exact K0.out.trans (Kp.drewN _ _))).trans kk)
  clear kk
  clear c0 c1 c2 c3 c4 c5 c6 c7
  obtain ⟨c0, c1, c2, c3, c4, c5, c6, c7⟩ := HB.out w1 K1.out
  go_wp2_with fail
  refine (FW.out _ (K00.out.trans (by first | with_reducible exact K1.out | with_reducible exact K1.out.trans (Kp.alloc _ _) | with_reducible exact (K1.out.trans (Kp.alloc _ _)).trans (Kp.alloc _ _) | with_reducible exact ((K1.out.trans (Kp.alloc _ _)).trans (Kp.alloc _ _)).trans (Kp.alloc _ _) | with_reducible exact K1.out.trans (Kp.drew _) | with_reducible exact K1.out.trans (Kp.drewN _ _)))).mono ?_
  rintro e w2 ⟨rfl, kk⟩
  have K2 := Lib.hid ((show Kp W0 _ from (by first | with_reducible exact K1.out | with_reducible exact K1.out.trans (Kp.alloc _ _) | with_reducible exact (K1.out.trans (Kp.alloc _ _)).trans (Kp.alloc _ _) | with_reducible exact ((K1.out.trans (Kp.alloc _ _)).trans (Kp.alloc _ _)).trans (Kp.alloc _ _) | with_reducible exact K1.out.trans (Kp.drew _) | with_reducible exact K1.out.trans (Kp.drewN _ _))).trans kk)
  clear kk
  clear c0 c1 c2 c3 c4 c5 c6 c7
  obtain ⟨c0, c1, c2, c3, c4, c5, c6, c7⟩ := HB.out w2 K2.out
  go_wp2_with fail
  refine (CN.out _ (K00.out.trans (by first | with_reducible exact K2.out | with_reducible exact K2.out.trans (Kp.alloc _ _) | with_reducible exact (K2.out.trans (Kp.alloc _ _)).trans (Kp.alloc _ _) | with_reducible exact ((K2.out.trans (Kp.alloc _ _)).trans (Kp.alloc _ _)).trans (Kp.alloc _ _) | with_reducible exact K2.out.trans (Kp.drew _) | with_reducible exact K2.out.trans (Kp.drewN _ _)))).mono ?_
  rintro e w3 ⟨vc, rfl, hvc, kk⟩
  have K3 := Lib.hid ((show Kp W0 _ from (by first | with_reducible exact K2.out | with_reducible exact K2.out.trans (Kp.alloc _ _) | with_reducible exact (K2.out.trans (Kp.alloc _ _)).trans (Kp.alloc _ _) | with_reducible exact ((K2.out.trans (Kp.alloc _ _)).trans (Kp.alloc _ _)).trans (Kp.alloc _ _) | with_reducible exact K2.out.trans (Kp.drew _) | with_reducible exact K2.out.trans (Kp.drewN _ _))).trans kk)
  have NV := Lib.hid hvc
  obtain ⟨adc, cpc, rfl⟩ := hvc.slice
  clear kk hvc
  clear c0 c1 c2 c3 c4 c5 c6 c7
  obtain ⟨c0, c1, c2, c3, c4, c5, c6, c7⟩ := HB.out w3 K3.out
  obtain ⟨w4, hV⟩ : ∃ x, x = w3.alloc (.cells #[.int .i64 k1, .int .i64 pk1, .string y1, .string m1, .string s1, .bool a1, .bool t1, .slice adc l1.length cpc] 26) := ⟨_, rfl⟩
  have ka : Kp w3 w4 := by rw [hV]; exact Kp.alloc _ _
  have hgq : w4.heap[w3.heap.size]? = some (.cells #[.int .i64 k1, .int .i64 pk1, .string y1, .string m1, .string s1, .bool a1, .bool t1, .slice adc l1.length cpc] 26 (0, 0)) := by rw [hV]; exact heap_at _ _ _ rfl
  have q0 : w4.cell? ⟨w3.heap.size, 0, none⟩ = some (.int .i64 k1) := by simp [World.cell?, hgq]
  have q1 : w4.cell? ⟨w3.heap.size, 1, none⟩ = some (.int .i64 pk1) := by simp [World.cell?, hgq]
  have q2 : w4.cell? ⟨w3.heap.size, 2, none⟩ = some (.string y1) := by simp [World.cell?, hgq]
  have q3 : w4.cell? ⟨w3.heap.size, 3, none⟩ = some (.string m1) := by simp [World.cell?, hgq]
  have q4 : w4.cell? ⟨w3.heap.size, 4, none⟩ = some (.string s1) := by simp [World.cell?, hgq]
  have q5 : w4.cell? ⟨w3.heap.size, 5, none⟩ = some (.bool a1) := by simp [World.cell?, hgq]
  have q6 : w4.cell? ⟨w3.heap.size, 6, none⟩ = some (.bool t1) := by simp [World.cell?, hgq]
  have q7 : w4.cell? ⟨w3.heap.size, 7, none⟩ = some (.slice adc l1.length cpc) := by simp [World.cell?, hgq]
  have HB2 := Lib.hid (fun w1 (k : Kp w4 w1) => show w1.cell? ⟨w.heap.size, 0, none⟩ = some (.int .i64 kn) ∧ w1.cell? ⟨w.heap.size, 1, none⟩ = some (.int .i64 pkn) ∧ w1.cell? ⟨w.heap.size, 2, none⟩ = some (.string yn) ∧ w1.cell? ⟨w.heap.size, 3, none⟩ = some (.string mn) ∧ w1.cell? ⟨w.heap.size, 4, none⟩ = some (.string qn) ∧ w1.cell? ⟨w.heap.size, 5, none⟩ = some (.bool an) ∧ w1.cell? ⟨w.heap.size, 6, none⟩ = some (.bool tn) ∧ w1.cell? ⟨w.heap.size, 7, none⟩ = some (.slice adn ln.length cpn) ∧ w1.cell? ⟨w3.heap.size, 0, none⟩ = some (.int .i64 k1) ∧ w1.cell? ⟨w3.heap.size, 1, none⟩ = some (.int .i64 pk1) ∧ w1.cell? ⟨w3.heap.size, 2, none⟩ = some (.string y1) ∧ w1.cell? ⟨w3.heap.size, 3, none⟩ = some (.string m1) ∧ w1.cell? ⟨w3.heap.size, 4, none⟩ = some (.string s1) ∧ w1.cell? ⟨w3.heap.size, 5, none⟩ = some (.bool a1) ∧ w1.cell? ⟨w3.heap.size, 6, none⟩ = some (.bool t1) ∧ w1.cell? ⟨w3.heap.size, 7, none⟩ = some (.slice adc l1.length cpc) from ⟨(HB.out w1 (K3.out.trans (ka.trans k))).1, (HB.out w1 (K3.out.trans (ka.trans k))).2.1, (HB.out w1 (K3.out.trans (ka.trans k))).2.2.1, (HB.out w1 (K3.out.trans (ka.trans k))).2.2.2.1, (HB.out w1 (K3.out.trans (ka.trans k))).2.2.2.2.1, (HB.out w1 (K3.out.trans (ka.trans k))).2.2.2.2.2.1, (HB.out w1 (K3.out.trans (ka.trans k))).2.2.2.2.2.2.1, (HB.out w1 (K3.out.trans (ka.trans k))).2.2.2.2.2.2.2, cell_up k q0, cell_up k q1, cell_up k q2, cell_up k q3, cell_up k q4, cell_up k q5, cell_up k q6, cell_up k q7⟩)
  have K01 := Lib.hid (K00.out.trans (K3.out.trans ka))
  have NV4 := Lib.hid (NV.out.kp ka)
  have bw := World.block_lt_of_cell? _ _ c0
  simp only at bw
  clear HB K00 hgq  q0 q1 q2 q3 q4 q5 q6 q7
  have HB := HB2
  have K00 := K01
  clear HB2 K01
  have K4 := Lib.hid (Kp.refl w4)
  have Hw4 := Lib.hid hV
  clear hV ka
  go_wp2_with fail
  rw [← Hw4.out]
  clear c0 c1 c2 c3 c4 c5 c6 c7
  obtain ⟨c0, c1, c2, c3, c4, c5, c6, c7, c8, c9, c10, c11, c12, c13, c14, c15⟩ := HB.out w4 (Kp.refl _)
  refine (SN.out _ (K00.out.trans (by first | with_reducible exact K4.out | with_reducible exact K4.out.trans (Kp.alloc _ _) | with_reducible exact (K4.out.trans (Kp.alloc _ _)).trans (Kp.alloc _ _) | with_reducible exact ((K4.out.trans (Kp.alloc _ _)).trans (Kp.alloc _ _)).trans (Kp.alloc _ _) | with_reducible exact K4.out.trans (Kp.drew _) | with_reducible exact K4.out.trans (Kp.drewN _ _)))).mono ?_
  rintro e w5 ⟨rfl, kk⟩
  have K5 := Lib.hid ((show Kp w4 _ from (by first | with_reducible exact K4.out | with_reducible exact K4.out.trans (Kp.alloc _ _) | with_reducible exact (K4.out.trans (Kp.alloc _ _)).trans (Kp.alloc _ _) | with_reducible exact ((K4.out.trans (Kp.alloc _ _)).trans (Kp.alloc _ _)).trans (Kp.alloc _ _) | with_reducible exact K4.out.trans (Kp.drew _) | with_reducible exact K4.out.trans (Kp.drewN _ _))).trans kk)
  clear kk
  clear c0 c1 c2 c3 c4 c5 c6 c7 c8 c9 c10 c11 c12 c13 c14 c15
  obtain ⟨c0, c1, c2, c3, c4, c5, c6, c7, c8, c9, c10, c11, c12, c13, c14, c15⟩ := HB.out w5 K5.out
  have KS := Lib.hid (fun w' (kq : Kp w5 w') => show w'.cell? ⟨w.heap.size, 0, none⟩ = some (.int .i64 kn) ∧ w'.cell? ⟨w.heap.size, 1, none⟩ = some (.int .i64 pkn) ∧ w'.cell? ⟨w.heap.size, 2, none⟩ = some (.string yn) ∧ w'.cell? ⟨w.heap.size, 3, none⟩ = some (.string mn) ∧ w'.cell? ⟨w.heap.size, 4, none⟩ = some (.string qn) ∧ w'.cell? ⟨w.heap.size, 5, none⟩ = some (.bool an) ∧ w'.cell? ⟨w.heap.size, 6, none⟩ = some (.bool tn) ∧ w'.cell? ⟨w.heap.size, 7, none⟩ = some (.slice adn ln.length cpn) ∧ w'.cell? ⟨w3.heap.size, 0, none⟩ = some (.int .i64 k1) ∧ w'.cell? ⟨w3.heap.size, 1, none⟩ = some (.int .i64 pk1) ∧ w'.cell? ⟨w3.heap.size, 2, none⟩ = some (.string y1) ∧ w'.cell? ⟨w3.heap.size, 3, none⟩ = some (.string m1) ∧ w'.cell? ⟨w3.heap.size, 4, none⟩ = some (.string s1) ∧ w'.cell? ⟨w3.heap.size, 5, none⟩ = some (.bool a1) ∧ w'.cell? ⟨w3.heap.size, 6, none⟩ = some (.bool t1) ∧ w'.cell? ⟨w3.heap.size, 7, none⟩ = some (.slice adc l1.length cpc) ∧ Kp w5 w' from ⟨(HB.out w' (K5.out.trans kq)).1, (HB.out w' (K5.out.trans kq)).2.1, (HB.out w' (K5.out.trans kq)).2.2.1, (HB.out w' (K5.out.trans kq)).2.2.2.1, (HB.out w' (K5.out.trans kq)).2.2.2.2.1, (HB.out w' (K5.out.trans kq)).2.2.2.2.2.1, (HB.out w' (K5.out.trans kq)).2.2.2.2.2.2.1, (HB.out w' (K5.out.trans kq)).2.2.2.2.2.2.2.1, (HB.out w' (K5.out.trans kq)).2.2.2.2.2.2.2.2.1, (HB.out w' (K5.out.trans kq)).2.2.2.2.2.2.2.2.2.1, (HB.out w' (K5.out.trans kq)).2.2.2.2.2.2.2.2.2.2.1, (HB.out w' (K5.out.trans kq)).2.2.2.2.2.2.2.2.2.2.2.1, (HB.out w' (K5.out.trans kq)).2.2.2.2.2.2.2.2.2.2.2.2.1, (HB.out w' (K5.out.trans kq)).2.2.2.2.2.2.2.2.2.2.2.2.2.1, (HB.out w' (K5.out.trans kq)).2.2.2.2.2.2.2.2.2.2.2.2.2.2.1, (HB.out w' (K5.out.trans kq)).2.2.2.2.2.2.2.2.2.2.2.2.2.2.2, kq⟩)
  go_wp2_with fail
  refine wp_region_held_drew (S := fun w' => w'.cell? ⟨w.heap.size, 0, none⟩ = some (.int .i64 kn) ∧ w'.cell? ⟨w.heap.size, 1, none⟩ = some (.int .i64 pkn) ∧ w'.cell? ⟨w.heap.size, 2, none⟩ = some (.string yn) ∧ w'.cell? ⟨w.heap.size, 3, none⟩ = some (.string mn) ∧ w'.cell? ⟨w.heap.size, 4, none⟩ = some (.string qn) ∧ w'.cell? ⟨w.heap.size, 5, none⟩ = some (.bool an) ∧ w'.cell? ⟨w.heap.size, 6, none⟩ = some (.bool tn) ∧ w'.cell? ⟨w.heap.size, 7, none⟩ = some (.slice adn ln.length cpn) ∧ w'.cell? ⟨w3.heap.size, 0, none⟩ = some (.int .i64 k1) ∧ w'.cell? ⟨w3.heap.size, 1, none⟩ = some (.int .i64 pk1) ∧ w'.cell? ⟨w3.heap.size, 2, none⟩ = some (.string y1) ∧ w'.cell? ⟨w3.heap.size, 3, none⟩ = some (.string m1) ∧ w'.cell? ⟨w3.heap.size, 4, none⟩ = some (.string s1) ∧ w'.cell? ⟨w3.heap.size, 5, none⟩ = some (.bool a1) ∧ w'.cell? ⟨w3.heap.size, 6, none⟩ = some (.bool t1) ∧ w'.cell? ⟨w3.heap.size, 7, none⟩ = some (.slice adc l1.length cpc) ∧ Kp w5 w') (by kernel_rfl) ?_ (fun hHeld0 => ?_)
  · (try dsimp only); exact KS.out _ (by first | assumption | exact Kp.drew _)
  refine tkW (v := ?_) 0 onA0 rfl (by kernel_rfl) (by kernel_rfl) (by kernel_rfl) (fun _ _ _ h => h) (by rfl) ?_ (by assumption) ?_
  rotate_left
  · intro w hSw; (try dsimp only at hSw); go_simp; (try with_reducible rfl)
  (try simp only [Act.put, onA0, List.setIfInBounds_toArray, List.set_cons_zero, List.set_cons_succ])
  refine tkE 1 onA1 rfl (by kernel_rfl) (fun K hK => ?_)
  go_simp
  (refine (SC.out _ _ (NV4.out.kp (K5.out.trans (by first | assumption | exact Kp.drew _))) (K00.out.trans (K5.out.trans (by first | assumption | exact Kp.drew _)))).mono ?_; rintro e ws0 ⟨rfl, k1⟩; have k2 := Kp.trans (show Kp w5 _ from (by first | assumption | exact Kp.drew _)) k1; clear k1)
  (try go_wp2_with fail)
  refine hK.out _ _ ?_ (fun hHeld1 => ?_)
  · (try dsimp only); exact KS.out _ (by first | assumption | exact Kp.drew _)
  clear hK K hHeld0
  (try simp only [Act.put, onA1, List.setIfInBounds_toArray, List.set_cons_zero, List.set_cons_succ])
  refine tkW (v := ?_) 2 onA2 rfl (by kernel_rfl) (by kernel_rfl) (by kernel_rfl) (fun _ _ _ h => h) (by rfl) ?_ (by assumption) ?_
  rotate_left
  · intro w hSw; (try dsimp only at hSw); go_simp; (try with_reducible rfl)
  (try simp only [Act.put, onA2, List.setIfInBounds_toArray, List.set_cons_zero, List.set_cons_succ])
  refine tkW (v := ?_) 3 onA3 rfl (by kernel_rfl) (by kernel_rfl) (by kernel_rfl) (fun _ _ _ h => h) (by rfl) ?_ (by assumption) ?_
  rotate_left
  · intro w hSw; (try dsimp only at hSw); go_simp; (try with_reducible rfl)
  (try simp only [Act.put, onA3, List.setIfInBounds_toArray, List.set_cons_zero, List.set_cons_succ])
  refine tkW (v := ?_) 4 onA4 rfl (by kernel_rfl) (by kernel_rfl) (by kernel_rfl) (fun _ _ _ h => h) (by rfl) ?_ (by assumption) ?_
  rotate_left
  · intro w hSw; (try dsimp only at hSw); go_simp; (try with_reducible rfl)
  (try simp only [Act.put, onA4, List.setIfInBounds_toArray, List.set_cons_zero, List.set_cons_succ])
  refine tkE 5 onA5 rfl (by kernel_rfl) (fun K hK => ?_)
  go_simp
  (refine (IC.out _ _ (NV4.out.kp (K5.out.trans (by first | assumption | exact Kp.drew _))) (K00.out.trans (K5.out.trans (by first | assumption | exact Kp.drew _)))).mono ?_; rintro e ws1 ⟨rfl, k1⟩; have k2 := Kp.trans (show Kp w5 _ from (by first | assumption | exact Kp.drew _)) k1; clear k1)
  (try go_wp2_with fail)
  refine hK.out _ _ ?_ (fun hHeld2 => ?_)
  · (try dsimp only); exact KS.out _ (by first | assumption | exact Kp.drew _)
  clear hK K hHeld1
  (try simp only [Act.put, onA5, List.setIfInBounds_toArray, List.set_cons_zero, List.set_cons_succ])
  refine tkW (v := ?_) 6 onA6 rfl (by kernel_rfl) (by kernel_rfl) (by kernel_rfl) (fun _ _ _ h => h) (by rfl) ?_ (by assumption) ?_
  rotate_left
  · intro w hSw; (try dsimp only at hSw); go_simp; (try with_reducible rfl)
  (try simp only [Act.put, onA6, List.setIfInBounds_toArray, List.set_cons_zero, List.set_cons_succ])
  refine tkW (v := ?_) 7 onA7 rfl (by kernel_rfl) (by kernel_rfl) (by kernel_rfl) (fun _ _ _ h => h) (by rfl) ?_ (by assumption) ?_
  rotate_left
  · intro w hSw; (try dsimp only at hSw); go_simp; (try with_reducible rfl)
  (try simp only [Act.put, onA7, List.setIfInBounds_toArray, List.set_cons_zero, List.set_cons_succ])
  refine tkW (v := ?_) 8 onA8 rfl (by kernel_rfl) (by kernel_rfl) (by kernel_rfl) (fun _ _ _ h => h) (by rfl) ?_ (by assumption) ?_
  rotate_left
  · intro w hSw; (try dsimp only at hSw); go_simp; (try with_reducible rfl)
  (try simp only [Act.put, onA8, List.setIfInBounds_toArray, List.set_cons_zero, List.set_cons_succ])
  refine tkW (v := ?_) 9 onA9 rfl (by kernel_rfl) (by kernel_rfl) (by kernel_rfl) (fun _ _ _ h => h) (by rfl) ?_ (by assumption) ?_
  rotate_left
  · intro w hSw; (try dsimp only at hSw); go_simp; (try with_reducible rfl)
  (try simp only [Act.put, onA9, List.setIfInBounds_toArray, List.set_cons_zero, List.set_cons_succ])
  refine tkW (v := ?_) 11 onA11 rfl (by kernel_rfl) (by kernel_rfl) (by kernel_rfl) (fun _ _ _ h => h) (by rfl) ?_ (by assumption) ?_
  rotate_left
  · intro w hSw; (try dsimp only at hSw); go_simp; (try with_reducible rfl)
  (try simp only [Act.put, onA11, List.setIfInBounds_toArray, List.set_cons_zero, List.set_cons_succ])
  refine tkE 10 onA10 rfl (by kernel_rfl) (fun K hK => ?_)
  go_simp
  (refine (CC.out _ _ (NV4.out.kp (K5.out.trans (by first | assumption | exact Kp.drew _))) (K00.out.trans (K5.out.trans (by first | assumption | exact Kp.drew _)))).mono ?_; rintro e ws2 ⟨vx, rfl, hvx, k1⟩; have NX := Lib.hid hvx; obtain ⟨adx, cpx, rfl⟩ := hvx.slice; clear hvx; have k2 := Kp.trans (show Kp w5 _ from (by first | assumption | exact Kp.drew _)) k1; clear k1)
  (try go_wp2_with fail)
  refine hK.out _ _ ?_ (fun hHeld3 => ?_)
  · (try dsimp only); exact KS.out _ (by first | assumption | exact Kp.drew _)
  clear hK K hHeld2
  (try simp only [Act.put, onA10, List.setIfInBounds_toArray, List.set_cons_zero, List.set_cons_succ])
  refine tkE 12 onA12 rfl (by kernel_rfl) (fun K hK => ?_)
  go_simp
  (refine (SM.out _ _ _ (NX.out.kp (by first | with_reducible exact Kp.refl _ | with_reducible exact Kp.alloc _ _ | with_reducible exact (Kp.alloc _ _).trans (Kp.alloc _ _) | with_reducible exact ((Kp.alloc _ _).trans (Kp.alloc _ _)).trans (Kp.alloc _ _) | with_reducible exact Kp.drew _ | with_reducible exact Kp.drewN _ _)) (NV4.out.kp (K5.out.trans (by first | assumption | exact Kp.drew _)))).mono ?_; rintro e ws3 ⟨rfl, k1⟩; have k2 := Kp.trans (show Kp w5 _ from (by first | assumption | exact Kp.drew _)) k1; clear k1)
  (try go_wp2_with fail)
  refine hK.out _ _ ?_ (fun hHeld4 => ?_)
  · (try dsimp only); exact KS.out _ (by first | assumption | exact Kp.drew _)
  clear hK K hHeld3
  (try simp only [Act.put, onA12, List.setIfInBounds_toArray, List.set_cons_zero, List.set_cons_succ])
  refine tkW (v := ?_) 13 onA13 rfl (by kernel_rfl) (by kernel_rfl) (by kernel_rfl) (fun _ _ _ h => h) (by rfl) ?_ (by assumption) ?_
  rotate_left
  · intro w hSw; (try dsimp only at hSw); go_simp; (try with_reducible rfl)
  (try simp only [Act.put, onA13, List.setIfInBounds_toArray, List.set_cons_zero, List.set_cons_succ])
  refine tkW (v := ?_) 14 onA14 rfl (by kernel_rfl) (by kernel_rfl) (by kernel_rfl) (fun _ _ _ h => h) (by rfl) ?_ (by assumption) ?_
  rotate_left
  · intro w hSw; (try dsimp only at hSw); go_simp; (try with_reducible rfl)
  (try simp only [Act.put, onA14, List.setIfInBounds_toArray, List.set_cons_zero, List.set_cons_succ])
  refine tkW (v := ?_) 15 onA15 rfl (by kernel_rfl) (by kernel_rfl) (by kernel_rfl) (fun _ _ _ h => h) (by rfl) ?_ (by assumption) ?_
  rotate_left
  · intro w hSw; (try dsimp only at hSw); go_simp; (try with_reducible rfl)
  (try simp only [Act.put, onA15, List.setIfInBounds_toArray, List.set_cons_zero, List.set_cons_succ])
  refine tkW (v := ?_) 16 onA16 rfl (by kernel_rfl) (by kernel_rfl) (by kernel_rfl) (fun _ _ _ h => h) (by rfl) ?_ (by assumption) ?_
  rotate_left
  · intro w hSw; (try dsimp only at hSw); go_simp; (try with_reducible rfl)
  (try simp only [Act.put, onA16, List.setIfInBounds_toArray, List.set_cons_zero, List.set_cons_succ])
  refine tkW (v := ?_) 18 onA18 rfl (by kernel_rfl) (by kernel_rfl) (by kernel_rfl) (fun _ _ _ h => h) (by rfl) ?_ (by assumption) ?_
  rotate_left
  · intro w hSw; (try dsimp only at hSw); go_simp; (try with_reducible rfl)
  (try simp only [Act.put, onA18, List.setIfInBounds_toArray, List.set_cons_zero, List.set_cons_succ])
  refine tkE 17 onA17 rfl (by kernel_rfl) (fun K hK => ?_)
  go_simp
  (refine (TC.out _ _ (NV4.out.kp (K5.out.trans (by first | assumption | exact Kp.drew _)))).mono ?_; rintro e ws4 ⟨rfl, k1⟩; have k2 := Kp.trans (show Kp w5 _ from (by first | assumption | exact Kp.drew _)) k1; clear k1)
  (try go_wp2_with fail)
  refine hK.out _ _ ?_ (fun hHeld5 => ?_)
  · (try dsimp only); exact KS.out _ (by first | assumption | exact Kp.drew _)
  clear hK K hHeld4
  (try simp only [Act.put, onA17, List.setIfInBounds_toArray, List.set_cons_zero, List.set_cons_succ])
  refine tkE 19 onA19 rfl (by kernel_rfl) (fun K hK => ?_)
  go_simp
  (refine (TM.out _ (K00.out.trans (K5.out.trans (by first | assumption | exact Kp.drew _)))).mono ?_; rintro e ws5 ⟨rfl, k1⟩; have k2 := Kp.trans (show Kp w5 _ from (by first | assumption | exact Kp.drew _)) k1; clear k1)
  (try go_wp2_with fail)
  refine hK.out _ _ ?_ (fun hHeld6 => ?_)
  · (try dsimp only); exact KS.out _ (by first | assumption | exact Kp.drew _)
  clear hK K hHeld5
  (try simp only [Act.put, onA19, List.setIfInBounds_toArray, List.set_cons_zero, List.set_cons_succ])
  refine tkW (v := ?_) 20 onA20 rfl (by kernel_rfl) (by kernel_rfl) (by kernel_rfl) (fun _ _ _ h => h) (by rfl) ?_ (by assumption) ?_
  rotate_left
  · intro w hSw; (try dsimp only at hSw); go_simp; (try with_reducible rfl)
  (try simp only [Act.put, onA20, List.setIfInBounds_toArray, List.set_cons_zero, List.set_cons_succ])
  refine tkW (v := ?_) 21 onA21 rfl (by kernel_rfl) (by kernel_rfl) (by kernel_rfl) (fun _ _ _ h => h) (by rfl) ?_ (by assumption) ?_
  rotate_left
  · intro w hSw; (try dsimp only at hSw); go_simp; (try with_reducible rfl)
  (try simp only [Act.put, onA21, List.setIfInBounds_toArray, List.set_cons_zero, List.set_cons_succ])
  refine tkW (v := ?_) 22 onA22 rfl (by kernel_rfl) (by kernel_rfl) (by kernel_rfl) (fun _ _ _ h => h) (by rfl) ?_ (by assumption) ?_
  rotate_left
  · intro w hSw; (try dsimp only at hSw); go_simp; (try with_reducible rfl)
  (try simp only [Act.put, onA22, List.setIfInBounds_toArray, List.set_cons_zero, List.set_cons_succ])
  refine tkW (v := ?_) 23 onA23 rfl (by kernel_rfl) (by kernel_rfl) (by kernel_rfl) (fun _ _ _ h => h) (by rfl) ?_ (by assumption) ?_
  rotate_left
  · intro w hSw; (try dsimp only at hSw); go_simp; (try with_reducible rfl)
  (try simp only [Act.put, onA23, List.setIfInBounds_toArray, List.set_cons_zero, List.set_cons_succ])
  refine tkE 24 onA24 rfl (by kernel_rfl) (fun K hK => ?_)
  go_simp
  (refine (TD.out _ _ (NV4.out.kp (K5.out.trans (by first | assumption | exact Kp.drew _)))).mono ?_; rintro e ws6 ⟨rfl, k1⟩; have k2 := Kp.trans (show Kp w5 _ from (by first | assumption | exact Kp.drew _)) k1; clear k1)
  (try go_wp2_with fail)
  refine hK.out _ _ ?_ (fun hHeld7 => ?_)
  · (try dsimp only); exact KS.out _ (by first | assumption | exact Kp.drew _)
  clear hK K hHeld6
  (try simp only [Act.put, onA24, List.setIfInBounds_toArray, List.set_cons_zero, List.set_cons_succ])
  refine tkW (v := ?_) 25 onA25 rfl (by kernel_rfl) (by kernel_rfl) (by kernel_rfl) (fun _ _ _ h => h) (by rfl) ?_ (by assumption) ?_
  rotate_left
  · intro w hSw; (try dsimp only at hSw); go_simp; (try with_reducible rfl)
  (try simp only [Act.put, onA25, List.setIfInBounds_toArray, List.set_cons_zero, List.set_cons_succ])
  refine tkW (v := ?_) 26 onA26 rfl (by kernel_rfl) (by kernel_rfl) (by kernel_rfl) (fun _ _ _ h => h) (by rfl) ?_ (by assumption) ?_
  rotate_left
  · intro w hSw; (try dsimp only at hSw); go_simp; (try with_reducible rfl)
  (try simp only [Act.put, onA26, List.setIfInBounds_toArray, List.set_cons_zero, List.set_cons_succ])
  refine tkW (v := ?_) 27 onA27 rfl (by kernel_rfl) (by kernel_rfl) (by kernel_rfl) (fun _ _ _ h => h) (by rfl) ?_ (by assumption) ?_
  rotate_left
  · intro w hSw; (try dsimp only at hSw); go_simp; (try with_reducible rfl)
  (try simp only [Act.put, onA27, List.setIfInBounds_toArray, List.set_cons_zero, List.set_cons_succ])
  refine tkW (v := ?_) 28 onA28 rfl (by kernel_rfl) (by kernel_rfl) (by kernel_rfl) (fun _ _ _ h => h) (by rfl) ?_ (by assumption) ?_
  rotate_left
  · intro w hSw; (try dsimp only at hSw); go_simp; (try with_reducible rfl)
  (try simp only [Act.put, onA28, List.setIfInBounds_toArray, List.set_cons_zero, List.set_cons_succ])
  refine tkW (v := ?_) 30 onA30 rfl (by kernel_rfl) (by kernel_rfl) (by kernel_rfl) (fun _ _ _ h => h) (by rfl) ?_ (by assumption) ?_
  rotate_left
  · intro w hSw; (try dsimp only at hSw); go_simp; (try with_reducible rfl)
  (try simp only [Act.put, onA30, List.setIfInBounds_toArray, List.set_cons_zero, List.set_cons_succ])
  refine tkW (v := ?_) 31 onA31 rfl (by kernel_rfl) (by kernel_rfl) (by kernel_rfl) (fun _ _ _ h => h) (by rfl) ?_ (by assumption) ?_
  rotate_left
  · intro w hSw; (try dsimp only at hSw); go_simp; (try with_reducible rfl)
  (try simp only [Act.put, onA31, List.setIfInBounds_toArray, List.set_cons_zero, List.set_cons_succ])
  refine tkE 29 onA29 rfl (by kernel_rfl) (fun K hK => ?_)
  go_simp
  (refine (IN.out _ (K00.out.trans (K5.out.trans (by first | assumption | exact Kp.drew _)))).mono ?_; rintro e ws7 ⟨rfl, k1⟩; have k2 := Kp.trans (show Kp w5 _ from (by first | assumption | exact Kp.drew _)) k1; clear k1)
  (try go_wp2_with fail)
  refine hK.out _ _ ?_ (fun hHeld8 => ?_)
  · (try dsimp only); exact KS.out _ (by first | assumption | exact Kp.drew _)
  clear hK K hHeld7
  (try simp only [Act.put, onA29, List.setIfInBounds_toArray, List.set_cons_zero, List.set_cons_succ])
  refine tkE 32 onA32 rfl (by kernel_rfl) (fun K hK => ?_)
  go_simp
  (refine (SX.out _ _ (NV4.out.kp (K5.out.trans (by first | assumption | exact Kp.drew _))) (K00.out.trans (K5.out.trans (by first | assumption | exact Kp.drew _)))).mono ?_; rintro e ws8 ⟨rfl, k1⟩; have k2 := Kp.trans (show Kp w5 _ from (by first | assumption | exact Kp.drew _)) k1; clear k1)
  (try go_wp2_with fail)
  refine hK.out _ _ ?_ (fun hHeld9 => ?_)
  · (try dsimp only); exact KS.out _ (by first | assumption | exact Kp.drew _)
  clear hK K hHeld8
  (try simp only [Act.put, onA32, List.setIfInBounds_toArray, List.set_cons_zero, List.set_cons_succ])
  refine tkW (v := ?_) 33 onA33 rfl (by kernel_rfl) (by kernel_rfl) (by kernel_rfl) (fun _ _ _ h => h) (by rfl) ?_ (by assumption) ?_
  rotate_left
  · intro w hSw; (try dsimp only at hSw); go_simp; (try with_reducible rfl)
  (try simp only [Act.put, onA33, List.setIfInBounds_toArray, List.set_cons_zero, List.set_cons_succ])
  refine tkW (v := ?_) 34 onA34 rfl (by kernel_rfl) (by kernel_rfl) (by kernel_rfl) (fun _ _ _ h => h) (by rfl) ?_ (by assumption) ?_
  rotate_left
  · intro w hSw; (try dsimp only at hSw); go_simp; (try with_reducible rfl)
  (try simp only [Act.put, onA34, List.setIfInBounds_toArray, List.set_cons_zero, List.set_cons_succ])
  refine wpAnyH_done (by kernel_rfl) ?_ _
  clear c0 c1 c2 c3 c4 c5 c6 c7 c8 c9 c10 c11 c12 c13 c14 c15
  have K6 := Lib.hid (K5.out.trans k2)
  obtain ⟨c0, c1, c2, c3, c4, c5, c6, c7, c8, c9, c10, c11, c12, c13, c14, c15⟩ := HB.out _ K6.out
  clear k2
  go_wp2
  go_loopw [5] (fun x ws => x = .int .i64 1 ∧ Hid (Kp w4 ws)) (fun _ _ => 0)
  case atStart => exact ⟨rfl, K6⟩
  case round =>
    obtain ⟨rfl, KL⟩ := hrel
    obtain ⟨d0, d1, d2, d3, d4, d5, d6, d7, d8, d9, d10, d11, d12, d13, d14, d15⟩ := HB.out _ KL.out
    go_wp2
    go_ret
    exact ⟨rfl, K00.out.trans KL.out⟩
set_option maxHeartbeats 16000000 in
set_option maxRecDepth 100000 in
theorem conce_list (n : ND) (un : Value) (w : World) (hn : NodesAt w un n.l) (T : TabSH w) (hf : fewG n = true) (hs : saneN saneP n = true) (hk : (canN n).k = 2) :
    Calls Tryd.prog 4 #[ndV n un] w fun e w' => e = .returned (.bool true) ∧ Kp w w' := by
  have PX := Lib.hid (fun x v w1 (hv : NodesAt w1 v x.l) (hc : cntN x ≤ 1000) (kk : Kp w w1) => ptext_any x v w1 hv hc (T.kp kk))
  have AW := Lib.hid (fun w1 (kk : Kp w w1) => awake12 w1 (T.kp kk))
  have FW := Lib.hid (fun w1 (kk : Kp w w1) => rfewG_any n un w1 (hn.kp kk))
  rw [hf] at FW
  have SN := Lib.hid (fun w1 (kk : Kp w w1) => tSaneG_any n un w1 (hn.kp kk) (T.kp kk))
  rw [hs] at SN
  have CN := Lib.hid (fun w1 (kk : Kp w w1) => ccan_any n un w1 (hn.kp kk) (T.kp kk))
  have IN := Lib.hid (fun w1 (kk : Kp w w1) => cis_any n un w1 (hn.kp kk) (T.kp kk))
  rw [canF_yes hs] at CN
  rw [isN_yes hs] at IN
  have cs := can_sane hs
  have SC := Lib.hid (fun v w1 (hv : NodesAt w1 v (canN n).l) (kk : Kp w w1) => tSaneG_any (canN n) v w1 hv (T.kp kk))
  rw [cs.1] at SC
  have IC := Lib.hid (fun v w1 (hv : NodesAt w1 v (canN n).l) (kk : Kp w w1) => cis_any (canN n) v w1 hv (T.kp kk))
  rw [isN_can hs] at IC
  have CC := Lib.hid (fun v w1 (hv : NodesAt w1 v (canN n).l) (kk : Kp w w1) => ccan_any (canN n) v w1 hv (T.kp kk))
  rw [canF_yes cs.1, can_can hs] at CC
  have c64 := (cn_right hs).2
  have SM := Lib.hid (fun v u w1 (hv : NodesAt w1 v (canN n).l) (hu : NodesAt w1 u (canN n).l) => tSame_any (canN n) (canN n) v u w1 hv hu (by omega))
  rw [same_refl] at SM
  have TC := Lib.hid (fun v w1 (hv : NodesAt w1 v (canN n).l) => tCount_any (canN n) v w1 hv (by omega))
  have TM := Lib.hid (fun w1 (kk : Kp w w1) => tCount_any n un w1 (hn.kp kk) (by omega))
  have TD := Lib.hid (fun v w1 (hv : NodesAt w1 v (canN n).l) => tDeep_any (canN n) v w1 hv (by omega))
  have SX := Lib.hid (fun v w1 (hv : NodesAt w1 v (canN n).l) (kk : Kp w w1) => tSame_any (canN n) n v un w1 hv (hn.kp kk) (by omega))
  have dp := can_dep hs
  have LM := Lib.hid (show (canN n).l.length ≤ 64 from by
    have a := len_cntL (canN n).l
    have b : cntN (canN n) = cntL (canN n).l + 1 := (by rw [eta_nd (canN n)]; rfl)
    have c := cs.2.1
    omega)
  have g1 : decide ((cntN (canN n) : Int) > (cntN n : Int)) = false := decide_eq_false (by omega)
  have g2 : decide ((depN (canN n) : Int) > 1) = false := decide_eq_false (by omega)
  have g3 : decide (cntN n < cntN (canN n)) = false := decide_eq_false (by omega)
  have g4 : decide (1 < depN (canN n)) = false := decide_eq_false (by omega)
  have g5 : cntN (canN n) ≤ cntN n := cs.2.1
  generalize sameN (canN n) n = r at *
  generalize cntN n = nn at *
  generalize depN (canN n) = dd at *
  have HK := Lib.hid (fun h : (canN n).k = 2 => (cs.2.2.2.2 h).2.1)
  have HR := Lib.hid (fun (h : (canN n).k = 2) (i : Nat) (hi : i + 1 < (canN n).l.length) => rise_at (can_rise hs h) hi)
  have HE := Lib.hid (fun (h : (canN n).k = 2) (i : Nat) (hi : i < (canN n).l.length) => can_elem hs h hi)
  have cc := cs.2.1
  clear cs dp
  generalize cntN (canN n) = nc at *
  generalize canN n = c at *
  obtain ⟨k1, pk1, y1, m1, s1, a1, t1, l1, rfl⟩ := nd_dest c
  simp only [ND.k, ND.l] at HK HR HE LM hk SC IC CC SM TC TD SX CN
  clear T hf hs cc c64
  subst hk
  have len2 := HK.out (by first | rfl | trivial)
  obtain ⟨adn, cpn, rfl⟩ := hn.slice
  obtain ⟨kn, pkn, yn, mn, qn, an, tn, ln, rfl⟩ := nd_dest n
  unfold ndV at *
  simp only [ND.k, ND.p, ND.a, ND.t, ND.l] at *
  obtain ⟨W0, hW⟩ : ∃ W0, W0 = w.alloc (.cells #[.int .i64 kn, .int .i64 pkn, .string yn, .string mn, .string qn, .bool an, .bool tn, .slice adn ln.length cpn] 26) := ⟨_, rfl⟩
  have K00 := Lib.hid (show Kp w W0 by rw [hW]; exact Kp.alloc _ _)
  have HB := Lib.hid (fun w1 (k : Kp W0 w1) => show w1.cell? ⟨w.heap.size, 0, none⟩ = some (.int .i64 kn) ∧ w1.cell? ⟨w.heap.size, 1, none⟩ = some (.int .i64 pkn) ∧ w1.cell? ⟨w.heap.size, 2, none⟩ = some (.string yn) ∧ w1.cell? ⟨w.heap.size, 3, none⟩ = some (.string mn) ∧ w1.cell? ⟨w.heap.size, 4, none⟩ = some (.string qn) ∧ w1.cell? ⟨w.heap.size, 5, none⟩ = some (.bool an) ∧ w1.cell? ⟨w.heap.size, 6, none⟩ = some (.bool tn) ∧ w1.cell? ⟨w.heap.size, 7, none⟩ = some (.slice adn ln.length cpn) from ⟨cell_up k (show W0.cell? ⟨w.heap.size, 0, none⟩ = some (.int .i64 kn) by rw [hW]; simp), cell_up k (show W0.cell? ⟨w.heap.size, 1, none⟩ = some (.int .i64 pkn) by rw [hW]; simp), cell_up k (show W0.cell? ⟨w.heap.size, 2, none⟩ = some (.string yn) by rw [hW]; simp), cell_up k (show W0.cell? ⟨w.heap.size, 3, none⟩ = some (.string mn) by rw [hW]; simp), cell_up k (show W0.cell? ⟨w.heap.size, 4, none⟩ = some (.string qn) by rw [hW]; simp), cell_up k (show W0.cell? ⟨w.heap.size, 5, none⟩ = some (.bool an) by rw [hW]; simp), cell_up k (show W0.cell? ⟨w.heap.size, 6, none⟩ = some (.bool tn) by rw [hW]; simp), cell_up k (show W0.cell? ⟨w.heap.size, 7, none⟩ = some (.slice adn ln.length cpn) by rw [hW]; simp)⟩)
  obtain ⟨c0, c1, c2, c3, c4, c5, c6, c7⟩ := HB.out W0 (Kp.refl _)
  have K0 := Lib.hid (Kp.refl W0)
  have HW := Lib.hid hW
  clear hW
  go_enter Tryd.func4, Tryd.ntmps4
  go_wp2_with fail
  rw [← HW.out]
  refine (AW.out _ (K00.out.trans (by first | with_reducible exact K0.out | with_reducible exact K0.out.trans (Kp.alloc _ _) | with_reducible exact (K0.out.trans (Kp.alloc _ _)).trans (Kp.alloc _ _) | with_reducible exact ((K0.out.trans (Kp.alloc _ _)).trans (Kp.alloc _ _)).trans (Kp.alloc _ _) | with_reducible exact K0.out.trans (Kp.drew _) | with_reducible exact K0.out.trans (Kp.drewN _ _)))).mono ?_
  rintro e w1 ⟨rfl, kk⟩
  have K1 := Lib.hid ((show Kp W0 _ from (by first | with_reducible exact K0.out | with_reducible exact K0.out.trans (Kp.alloc _ _) | with_reducible exact (K0.out.trans (Kp.alloc _ _)).trans (Kp.alloc _ _) | with_reducible exact ((K0.out.trans (Kp.alloc _ _)).trans (Kp.alloc _ _)).trans (Kp.alloc _ _) | with_reducible exact K0.out.trans (Kp.drew _) | with_reducible exact K0.out.trans (Kp.drewN _ _))).trans kk)
  clear kk
  clear c0 c1 c2 c3 c4 c5 c6 c7
  obtain ⟨c0, c1, c2, c3, c4, c5, c6, c7⟩ := HB.out w1 K1.out
  go_wp2_with fail
  refine (FW.out _ (K00.out.trans (by first | with_reducible exact K1.out | with_reducible exact K1.out.trans (Kp.alloc _ _) | with_reducible exact (K1.out.trans (Kp.alloc _ _)).trans (Kp.alloc _ _) | with_reducible exact ((K1.out.trans (Kp.alloc _ _)).trans (Kp.alloc _ _)).trans (Kp.alloc _ _) | with_reducible exact K1.out.trans (Kp.drew _) | with_reducible exact K1.out.trans (Kp.drewN _ _)))).mono ?_
  rintro e w2 ⟨rfl, kk⟩
  have K2 := Lib.hid ((show Kp W0 _ from (by first | with_reducible exact K1.out | with_reducible exact K1.out.trans (Kp.alloc _ _) | with_reducible exact (K1.out.trans (Kp.alloc _ _)).trans (Kp.alloc _ _) | with_reducible exact ((K1.out.trans (Kp.alloc _ _)).trans (Kp.alloc _ _)).trans (Kp.alloc _ _) | with_reducible exact K1.out.trans (Kp.drew _) | with_reducible exact K1.out.trans (Kp.drewN _ _))).trans kk)
  clear kk
  clear c0 c1 c2 c3 c4 c5 c6 c7
  obtain ⟨c0, c1, c2, c3, c4, c5, c6, c7⟩ := HB.out w2 K2.out
  go_wp2_with fail
  refine (CN.out _ (K00.out.trans (by first | with_reducible exact K2.out | with_reducible exact K2.out.trans (Kp.alloc _ _) | with_reducible exact (K2.out.trans (Kp.alloc _ _)).trans (Kp.alloc _ _) | with_reducible exact ((K2.out.trans (Kp.alloc _ _)).trans (Kp.alloc _ _)).trans (Kp.alloc _ _) | with_reducible exact K2.out.trans (Kp.drew _) | with_reducible exact K2.out.trans (Kp.drewN _ _)))).mono ?_
  rintro e w3 ⟨vc, rfl, hvc, kk⟩
  have K3 := Lib.hid ((show Kp W0 _ from (by first | with_reducible exact K2.out | with_reducible exact K2.out.trans (Kp.alloc _ _) | with_reducible exact (K2.out.trans (Kp.alloc _ _)).trans (Kp.alloc _ _) | with_reducible exact ((K2.out.trans (Kp.alloc _ _)).trans (Kp.alloc _ _)).trans (Kp.alloc _ _) | with_reducible exact K2.out.trans (Kp.drew _) | with_reducible exact K2.out.trans (Kp.drewN _ _))).trans kk)
  have NV := Lib.hid hvc
  obtain ⟨adc, cpc, rfl⟩ := hvc.slice
  clear kk hvc
  clear c0 c1 c2 c3 c4 c5 c6 c7
  obtain ⟨c0, c1, c2, c3, c4, c5, c6, c7⟩ := HB.out w3 K3.out
  obtain ⟨w4, hV⟩ : ∃ x, x = w3.alloc (.cells #[.int .i64 2, .int .i64 pk1, .string y1, .string m1, .string s1, .bool a1, .bool t1, .slice adc l1.length cpc] 26) := ⟨_, rfl⟩
  have ka : Kp w3 w4 := by rw [hV]; exact Kp.alloc _ _
  have hgq : w4.heap[w3.heap.size]? = some (.cells #[.int .i64 2, .int .i64 pk1, .string y1, .string m1, .string s1, .bool a1, .bool t1, .slice adc l1.length cpc] 26 (0, 0)) := by rw [hV]; exact heap_at _ _ _ rfl
  have q0 : w4.cell? ⟨w3.heap.size, 0, none⟩ = some (.int .i64 2) := by simp [World.cell?, hgq]
  have q1 : w4.cell? ⟨w3.heap.size, 1, none⟩ = some (.int .i64 pk1) := by simp [World.cell?, hgq]
  have q2 : w4.cell? ⟨w3.heap.size, 2, none⟩ = some (.string y1) := by simp [World.cell?, hgq]
  have q3 : w4.cell? ⟨w3.heap.size, 3, none⟩ = some (.string m1) := by simp [World.cell?, hgq]
  have q4 : w4.cell? ⟨w3.heap.size, 4, none⟩ = some (.string s1) := by simp [World.cell?, hgq]
  have q5 : w4.cell? ⟨w3.heap.size, 5, none⟩ = some (.bool a1) := by simp [World.cell?, hgq]
  have q6 : w4.cell? ⟨w3.heap.size, 6, none⟩ = some (.bool t1) := by simp [World.cell?, hgq]
  have q7 : w4.cell? ⟨w3.heap.size, 7, none⟩ = some (.slice adc l1.length cpc) := by simp [World.cell?, hgq]
  have HB2 := Lib.hid (fun w1 (k : Kp w4 w1) => show w1.cell? ⟨w.heap.size, 0, none⟩ = some (.int .i64 kn) ∧ w1.cell? ⟨w.heap.size, 1, none⟩ = some (.int .i64 pkn) ∧ w1.cell? ⟨w.heap.size, 2, none⟩ = some (.string yn) ∧ w1.cell? ⟨w.heap.size, 3, none⟩ = some (.string mn) ∧ w1.cell? ⟨w.heap.size, 4, none⟩ = some (.string qn) ∧ w1.cell? ⟨w.heap.size, 5, none⟩ = some (.bool an) ∧ w1.cell? ⟨w.heap.size, 6, none⟩ = some (.bool tn) ∧ w1.cell? ⟨w.heap.size, 7, none⟩ = some (.slice adn ln.length cpn) ∧ w1.cell? ⟨w3.heap.size, 0, none⟩ = some (.int .i64 2) ∧ w1.cell? ⟨w3.heap.size, 1, none⟩ = some (.int .i64 pk1) ∧ w1.cell? ⟨w3.heap.size, 2, none⟩ = some (.string y1) ∧ w1.cell? ⟨w3.heap.size, 3, none⟩ = some (.string m1) ∧ w1.cell? ⟨w3.heap.size, 4, none⟩ = some (.string s1) ∧ w1.cell? ⟨w3.heap.size, 5, none⟩ = some (.bool a1) ∧ w1.cell? ⟨w3.heap.size, 6, none⟩ = some (.bool t1) ∧ w1.cell? ⟨w3.heap.size, 7, none⟩ = some (.slice adc l1.length cpc) from ⟨(HB.out w1 (K3.out.trans (ka.trans k))).1, (HB.out w1 (K3.out.trans (ka.trans k))).2.1, (HB.out w1 (K3.out.trans (ka.trans k))).2.2.1, (HB.out w1 (K3.out.trans (ka.trans k))).2.2.2.1, (HB.out w1 (K3.out.trans (ka.trans k))).2.2.2.2.1, (HB.out w1 (K3.out.trans (ka.trans k))).2.2.2.2.2.1, (HB.out w1 (K3.out.trans (ka.trans k))).2.2.2.2.2.2.1, (HB.out w1 (K3.out.trans (ka.trans k))).2.2.2.2.2.2.2, cell_up k q0, cell_up k q1, cell_up k q2, cell_up k q3, cell_up k q4, cell_up k q5, cell_up k q6, cell_up k q7⟩)
  have K01 := Lib.hid (K00.out.trans (K3.out.trans ka))
  have NV4 := Lib.hid (NV.out.kp ka)
  have bw := World.block_lt_of_cell? _ _ c0
  simp only at bw
  clear HB K00 hgq  q0 q1 q2 q3 q4 q5 q6 q7
  have HB := HB2
  have K00 := K01
  clear HB2 K01
  have K4 := Lib.hid (Kp.refl w4)
  have Hw4 := Lib.hid hV
  clear hV ka
  go_wp2_with fail
  rw [← Hw4.out]
  clear c0 c1 c2 c3 c4 c5 c6 c7
  obtain ⟨c0, c1, c2, c3, c4, c5, c6, c7, c8, c9, c10, c11, c12, c13, c14, c15⟩ := HB.out w4 (Kp.refl _)
  refine (SN.out _ (K00.out.trans (by first | with_reducible exact K4.out | with_reducible exact K4.out.trans (Kp.alloc _ _) | with_reducible exact (K4.out.trans (Kp.alloc _ _)).trans (Kp.alloc _ _) | with_reducible exact ((K4.out.trans (Kp.alloc _ _)).trans (Kp.alloc _ _)).trans (Kp.alloc _ _) | with_reducible exact K4.out.trans (Kp.drew _) | with_reducible exact K4.out.trans (Kp.drewN _ _)))).mono ?_
  rintro e w5 ⟨rfl, kk⟩
  have K5 := Lib.hid ((show Kp w4 _ from (by first | with_reducible exact K4.out | with_reducible exact K4.out.trans (Kp.alloc _ _) | with_reducible exact (K4.out.trans (Kp.alloc _ _)).trans (Kp.alloc _ _) | with_reducible exact ((K4.out.trans (Kp.alloc _ _)).trans (Kp.alloc _ _)).trans (Kp.alloc _ _) | with_reducible exact K4.out.trans (Kp.drew _) | with_reducible exact K4.out.trans (Kp.drewN _ _))).trans kk)
  clear kk
  clear c0 c1 c2 c3 c4 c5 c6 c7 c8 c9 c10 c11 c12 c13 c14 c15
  obtain ⟨c0, c1, c2, c3, c4, c5, c6, c7, c8, c9, c10, c11, c12, c13, c14, c15⟩ := HB.out w5 K5.out
  have KS := Lib.hid (fun w' (kq : Kp w5 w') => show w'.cell? ⟨w.heap.size, 0, none⟩ = some (.int .i64 kn) ∧ w'.cell? ⟨w.heap.size, 1, none⟩ = some (.int .i64 pkn) ∧ w'.cell? ⟨w.heap.size, 2, none⟩ = some (.string yn) ∧ w'.cell? ⟨w.heap.size, 3, none⟩ = some (.string mn) ∧ w'.cell? ⟨w.heap.size, 4, none⟩ = some (.string qn) ∧ w'.cell? ⟨w.heap.size, 5, none⟩ = some (.bool an) ∧ w'.cell? ⟨w.heap.size, 6, none⟩ = some (.bool tn) ∧ w'.cell? ⟨w.heap.size, 7, none⟩ = some (.slice adn ln.length cpn) ∧ w'.cell? ⟨w3.heap.size, 0, none⟩ = some (.int .i64 2) ∧ w'.cell? ⟨w3.heap.size, 1, none⟩ = some (.int .i64 pk1) ∧ w'.cell? ⟨w3.heap.size, 2, none⟩ = some (.string y1) ∧ w'.cell? ⟨w3.heap.size, 3, none⟩ = some (.string m1) ∧ w'.cell? ⟨w3.heap.size, 4, none⟩ = some (.string s1) ∧ w'.cell? ⟨w3.heap.size, 5, none⟩ = some (.bool a1) ∧ w'.cell? ⟨w3.heap.size, 6, none⟩ = some (.bool t1) ∧ w'.cell? ⟨w3.heap.size, 7, none⟩ = some (.slice adc l1.length cpc) ∧ Kp w5 w' from ⟨(HB.out w' (K5.out.trans kq)).1, (HB.out w' (K5.out.trans kq)).2.1, (HB.out w' (K5.out.trans kq)).2.2.1, (HB.out w' (K5.out.trans kq)).2.2.2.1, (HB.out w' (K5.out.trans kq)).2.2.2.2.1, (HB.out w' (K5.out.trans kq)).2.2.2.2.2.1, (HB.out w' (K5.out.trans kq)).2.2.2.2.2.2.1, (HB.out w' (K5.out.trans kq)).2.2.2.2.2.2.2.1, (HB.out w' (K5.out.trans kq)).2.2.2.2.2.2.2.2.1, (HB.out w' (K5.out.trans kq)).2.2.2.2.2.2.2.2.2.1, (HB.out w' (K5.out.trans kq)).2.2.2.2.2.2.2.2.2.2.1, (HB.out w' (K5.out.trans kq)).2.2.2.2.2.2.2.2.2.2.2.1, (HB.out w' (K5.out.trans kq)).2.2.2.2.2.2.2.2.2.2.2.2.1, (HB.out w' (K5.out.trans kq)).2.2.2.2.2.2.2.2.2.2.2.2.2.1, (HB.out w' (K5.out.trans kq)).2.2.2.2.2.2.2.2.2.2.2.2.2.2.1, (HB.out w' (K5.out.trans kq)).2.2.2.2.2.2.2.2.2.2.2.2.2.2.2, kq⟩)
  go_wp2_with fail
  refine wp_region_held_drew (S := fun w' => w'.cell? ⟨w.heap.size, 0, none⟩ = some (.int .i64 kn) ∧ w'.cell? ⟨w.heap.size, 1, none⟩ = some (.int .i64 pkn) ∧ w'.cell? ⟨w.heap.size, 2, none⟩ = some (.string yn) ∧ w'.cell? ⟨w.heap.size, 3, none⟩ = some (.string mn) ∧ w'.cell? ⟨w.heap.size, 4, none⟩ = some (.string qn) ∧ w'.cell? ⟨w.heap.size, 5, none⟩ = some (.bool an) ∧ w'.cell? ⟨w.heap.size, 6, none⟩ = some (.bool tn) ∧ w'.cell? ⟨w.heap.size, 7, none⟩ = some (.slice adn ln.length cpn) ∧ w'.cell? ⟨w3.heap.size, 0, none⟩ = some (.int .i64 2) ∧ w'.cell? ⟨w3.heap.size, 1, none⟩ = some (.int .i64 pk1) ∧ w'.cell? ⟨w3.heap.size, 2, none⟩ = some (.string y1) ∧ w'.cell? ⟨w3.heap.size, 3, none⟩ = some (.string m1) ∧ w'.cell? ⟨w3.heap.size, 4, none⟩ = some (.string s1) ∧ w'.cell? ⟨w3.heap.size, 5, none⟩ = some (.bool a1) ∧ w'.cell? ⟨w3.heap.size, 6, none⟩ = some (.bool t1) ∧ w'.cell? ⟨w3.heap.size, 7, none⟩ = some (.slice adc l1.length cpc) ∧ Kp w5 w') (by kernel_rfl) ?_ (fun hHeld0 => ?_)
  · (try dsimp only); exact KS.out _ (by first | assumption | exact Kp.drew _)
  refine tkW (v := ?_) 0 onA0 rfl (by kernel_rfl) (by kernel_rfl) (by kernel_rfl) (fun _ _ _ h => h) (by rfl) ?_ (by assumption) ?_
  rotate_left
  · intro w hSw; (try dsimp only at hSw); go_simp; (try with_reducible rfl)
  (try simp only [Act.put, onA0, List.setIfInBounds_toArray, List.set_cons_zero, List.set_cons_succ])
  refine tkE 1 onA1 rfl (by kernel_rfl) (fun K hK => ?_)
  go_simp
  (refine (SC.out _ _ (NV4.out.kp (K5.out.trans (by first | assumption | exact Kp.drew _))) (K00.out.trans (K5.out.trans (by first | assumption | exact Kp.drew _)))).mono ?_; rintro e ws0 ⟨rfl, k1⟩; have k2 := Kp.trans (show Kp w5 _ from (by first | assumption | exact Kp.drew _)) k1; clear k1)
  (try go_wp2_with fail)
  refine hK.out _ _ ?_ (fun hHeld1 => ?_)
  · (try dsimp only); exact KS.out _ (by first | assumption | exact Kp.drew _)
  clear hK K hHeld0
  (try simp only [Act.put, onA1, List.setIfInBounds_toArray, List.set_cons_zero, List.set_cons_succ])
  refine tkW (v := ?_) 2 onA2 rfl (by kernel_rfl) (by kernel_rfl) (by kernel_rfl) (fun _ _ _ h => h) (by rfl) ?_ (by assumption) ?_
  rotate_left
  · intro w hSw; (try dsimp only at hSw); go_simp; (try with_reducible rfl)
  (try simp only [Act.put, onA2, List.setIfInBounds_toArray, List.set_cons_zero, List.set_cons_succ])
  refine tkW (v := ?_) 3 onA3 rfl (by kernel_rfl) (by kernel_rfl) (by kernel_rfl) (fun _ _ _ h => h) (by rfl) ?_ (by assumption) ?_
  rotate_left
  · intro w hSw; (try dsimp only at hSw); go_simp; (try with_reducible rfl)
  (try simp only [Act.put, onA3, List.setIfInBounds_toArray, List.set_cons_zero, List.set_cons_succ])
  refine tkW (v := ?_) 4 onA4 rfl (by kernel_rfl) (by kernel_rfl) (by kernel_rfl) (fun _ _ _ h => h) (by rfl) ?_ (by assumption) ?_
  rotate_left
  · intro w hSw; (try dsimp only at hSw); go_simp; (try with_reducible rfl)
  (try simp only [Act.put, onA4, List.setIfInBounds_toArray, List.set_cons_zero, List.set_cons_succ])
  refine tkE 5 onA5 rfl (by kernel_rfl) (fun K hK => ?_)
  go_simp
  (refine (IC.out _ _ (NV4.out.kp (K5.out.trans (by first | assumption | exact Kp.drew _))) (K00.out.trans (K5.out.trans (by first | assumption | exact Kp.drew _)))).mono ?_; rintro e ws1 ⟨rfl, k1⟩; have k2 := Kp.trans (show Kp w5 _ from (by first | assumption | exact Kp.drew _)) k1; clear k1)
  (try go_wp2_with fail)
  refine hK.out _ _ ?_ (fun hHeld2 => ?_)
  · (try dsimp only); exact KS.out _ (by first | assumption | exact Kp.drew _)
  clear hK K hHeld1
  (try simp only [Act.put, onA5, List.setIfInBounds_toArray, List.set_cons_zero, List.set_cons_succ])
  refine tkW (v := ?_) 6 onA6 rfl (by kernel_rfl) (by kernel_rfl) (by kernel_rfl) (fun _ _ _ h => h) (by rfl) ?_ (by assumption) ?_
  rotate_left
  · intro w hSw; (try dsimp only at hSw); go_simp; (try with_reducible rfl)
  (try simp only [Act.put, onA6, List.setIfInBounds_toArray, List.set_cons_zero, List.set_cons_succ])
  refine tkW (v := ?_) 7 onA7 rfl (by kernel_rfl) (by kernel_rfl) (by kernel_rfl) (fun _ _ _ h => h) (by rfl) ?_ (by assumption) ?_
  rotate_left
  · intro w hSw; (try dsimp only at hSw); go_simp; (try with_reducible rfl)
  (try simp only [Act.put, onA7, List.setIfInBounds_toArray, List.set_cons_zero, List.set_cons_succ])
  refine tkW (v := ?_) 8 onA8 rfl (by kernel_rfl) (by kernel_rfl) (by kernel_rfl) (fun _ _ _ h => h) (by rfl) ?_ (by assumption) ?_
  rotate_left
  · intro w hSw; (try dsimp only at hSw); go_simp; (try with_reducible rfl)
  (try simp only [Act.put, onA8, List.setIfInBounds_toArray, List.set_cons_zero, List.set_cons_succ])
  refine tkW (v := ?_) 9 onA9 rfl (by kernel_rfl) (by kernel_rfl) (by kernel_rfl) (fun _ _ _ h => h) (by rfl) ?_ (by assumption) ?_
  rotate_left
  · intro w hSw; (try dsimp only at hSw); go_simp; (try with_reducible rfl)
  (try simp only [Act.put, onA9, List.setIfInBounds_toArray, List.set_cons_zero, List.set_cons_succ])
  refine tkW (v := ?_) 11 onA11 rfl (by kernel_rfl) (by kernel_rfl) (by kernel_rfl) (fun _ _ _ h => h) (by rfl) ?_ (by assumption) ?_
  rotate_left
  · intro w hSw; (try dsimp only at hSw); go_simp; (try with_reducible rfl)
  (try simp only [Act.put, onA11, List.setIfInBounds_toArray, List.set_cons_zero, List.set_cons_succ])
  refine tkE 10 onA10 rfl (by kernel_rfl) (fun K hK => ?_)
  go_simp
  (refine (CC.out _ _ (NV4.out.kp (K5.out.trans (by first | assumption | exact Kp.drew _))) (K00.out.trans (K5.out.trans (by first | assumption | exact Kp.drew _)))).mono ?_; rintro e ws2 ⟨vx, rfl, hvx, k1⟩; have NX := Lib.hid hvx; obtain ⟨adx, cpx, rfl⟩ := hvx.slice; clear hvx; have k2 := Kp.trans (show Kp w5 _ from (by first | assumption | exact Kp.drew _)) k1; clear k1)
  (try go_wp2_with fail)
  refine hK.out _ _ ?_ (fun hHeld3 => ?_)
  · (try dsimp only); exact KS.out _ (by first | assumption | exact Kp.drew _)
  clear hK K hHeld2
  (try simp only [Act.put, onA10, List.setIfInBounds_toArray, List.set_cons_zero, List.set_cons_succ])
  refine tkE 12 onA12 rfl (by kernel_rfl) (fun K hK => ?_)
  go_simp
  (refine (SM.out _ _ _ (NX.out.kp (by first | with_reducible exact Kp.refl _ | with_reducible exact Kp.alloc _ _ | with_reducible exact (Kp.alloc _ _).trans (Kp.alloc _ _) | with_reducible exact ((Kp.alloc _ _).trans (Kp.alloc _ _)).trans (Kp.alloc _ _) | with_reducible exact Kp.drew _ | with_reducible exact Kp.drewN _ _)) (NV4.out.kp (K5.out.trans (by first | assumption | exact Kp.drew _)))).mono ?_; rintro e ws3 ⟨rfl, k1⟩; have k2 := Kp.trans (show Kp w5 _ from (by first | assumption | exact Kp.drew _)) k1; clear k1)
  (try go_wp2_with fail)
  refine hK.out _ _ ?_ (fun hHeld4 => ?_)
  · (try dsimp only); exact KS.out _ (by first | assumption | exact Kp.drew _)
  clear hK K hHeld3
  (try simp only [Act.put, onA12, List.setIfInBounds_toArray, List.set_cons_zero, List.set_cons_succ])
  refine tkW (v := ?_) 13 onA13 rfl (by kernel_rfl) (by kernel_rfl) (by kernel_rfl) (fun _ _ _ h => h) (by rfl) ?_ (by assumption) ?_
  rotate_left
  · intro w hSw; (try dsimp only at hSw); go_simp; (try with_reducible rfl)
  (try simp only [Act.put, onA13, List.setIfInBounds_toArray, List.set_cons_zero, List.set_cons_succ])
  refine tkW (v := ?_) 14 onA14 rfl (by kernel_rfl) (by kernel_rfl) (by kernel_rfl) (fun _ _ _ h => h) (by rfl) ?_ (by assumption) ?_
  rotate_left
  · intro w hSw; (try dsimp only at hSw); go_simp; (try with_reducible rfl)
  (try simp only [Act.put, onA14, List.setIfInBounds_toArray, List.set_cons_zero, List.set_cons_succ])
  refine tkW (v := ?_) 15 onA15 rfl (by kernel_rfl) (by kernel_rfl) (by kernel_rfl) (fun _ _ _ h => h) (by rfl) ?_ (by assumption) ?_
  rotate_left
  · intro w hSw; (try dsimp only at hSw); go_simp; (try with_reducible rfl)
  (try simp only [Act.put, onA15, List.setIfInBounds_toArray, List.set_cons_zero, List.set_cons_succ])
  refine tkW (v := ?_) 16 onA16 rfl (by kernel_rfl) (by kernel_rfl) (by kernel_rfl) (fun _ _ _ h => h) (by rfl) ?_ (by assumption) ?_
  rotate_left
  · intro w hSw; (try dsimp only at hSw); go_simp; (try with_reducible rfl)
  (try simp only [Act.put, onA16, List.setIfInBounds_toArray, List.set_cons_zero, List.set_cons_succ])
  refine tkW (v := ?_) 18 onA18 rfl (by kernel_rfl) (by kernel_rfl) (by kernel_rfl) (fun _ _ _ h => h) (by rfl) ?_ (by assumption) ?_
  rotate_left
  · intro w hSw; (try dsimp only at hSw); go_simp; (try with_reducible rfl)
  (try simp only [Act.put, onA18, List.setIfInBounds_toArray, List.set_cons_zero, List.set_cons_succ])
  refine tkE 17 onA17 rfl (by kernel_rfl) (fun K hK => ?_)
  go_simp
  (refine (TC.out _ _ (NV4.out.kp (K5.out.trans (by first | assumption | exact Kp.drew _)))).mono ?_; rintro e ws4 ⟨rfl, k1⟩; have k2 := Kp.trans (show Kp w5 _ from (by first | assumption | exact Kp.drew _)) k1; clear k1)
  (try go_wp2_with fail)
  refine hK.out _ _ ?_ (fun hHeld5 => ?_)
  · (try dsimp only); exact KS.out _ (by first | assumption | exact Kp.drew _)
  clear hK K hHeld4
  (try simp only [Act.put, onA17, List.setIfInBounds_toArray, List.set_cons_zero, List.set_cons_succ])
  refine tkE 19 onA19 rfl (by kernel_rfl) (fun K hK => ?_)
  go_simp
  (refine (TM.out _ (K00.out.trans (K5.out.trans (by first | assumption | exact Kp.drew _)))).mono ?_; rintro e ws5 ⟨rfl, k1⟩; have k2 := Kp.trans (show Kp w5 _ from (by first | assumption | exact Kp.drew _)) k1; clear k1)
  (try go_wp2_with fail)
  refine hK.out _ _ ?_ (fun hHeld6 => ?_)
  · (try dsimp only); exact KS.out _ (by first | assumption | exact Kp.drew _)
  clear hK K hHeld5
  (try simp only [Act.put, onA19, List.setIfInBounds_toArray, List.set_cons_zero, List.set_cons_succ])
  refine tkW (v := ?_) 20 onA20 rfl (by kernel_rfl) (by kernel_rfl) (by kernel_rfl) (fun _ _ _ h => h) (by rfl) ?_ (by assumption) ?_
  rotate_left
  · intro w hSw; (try dsimp only at hSw); go_simp; (try with_reducible rfl)
  (try simp only [Act.put, onA20, List.setIfInBounds_toArray, List.set_cons_zero, List.set_cons_succ])
  refine tkW (v := ?_) 21 onA21 rfl (by kernel_rfl) (by kernel_rfl) (by kernel_rfl) (fun _ _ _ h => h) (by rfl) ?_ (by assumption) ?_
  rotate_left
  · intro w hSw; (try dsimp only at hSw); go_simp; (try with_reducible rfl)
  (try simp only [Act.put, onA21, List.setIfInBounds_toArray, List.set_cons_zero, List.set_cons_succ])
  refine tkW (v := ?_) 22 onA22 rfl (by kernel_rfl) (by kernel_rfl) (by kernel_rfl) (fun _ _ _ h => h) (by rfl) ?_ (by assumption) ?_
  rotate_left
  · intro w hSw; (try dsimp only at hSw); go_simp; (try with_reducible rfl)
  (try simp only [Act.put, onA22, List.setIfInBounds_toArray, List.set_cons_zero, List.set_cons_succ])
  refine tkW (v := ?_) 23 onA23 rfl (by kernel_rfl) (by kernel_rfl) (by kernel_rfl) (fun _ _ _ h => h) (by rfl) ?_ (by assumption) ?_
  rotate_left
  · intro w hSw; (try dsimp only at hSw); go_simp; (try with_reducible rfl)
  (try simp only [Act.put, onA23, List.setIfInBounds_toArray, List.set_cons_zero, List.set_cons_succ])
  refine tkE 24 onA24 rfl (by kernel_rfl) (fun K hK => ?_)
  go_simp
  (refine (TD.out _ _ (NV4.out.kp (K5.out.trans (by first | assumption | exact Kp.drew _)))).mono ?_; rintro e ws6 ⟨rfl, k1⟩; have k2 := Kp.trans (show Kp w5 _ from (by first | assumption | exact Kp.drew _)) k1; clear k1)
  (try go_wp2_with fail)
  refine hK.out _ _ ?_ (fun hHeld7 => ?_)
  · (try dsimp only); exact KS.out _ (by first | assumption | exact Kp.drew _)
  clear hK K hHeld6
  (try simp only [Act.put, onA24, List.setIfInBounds_toArray, List.set_cons_zero, List.set_cons_succ])
  refine tkW (v := ?_) 25 onA25 rfl (by kernel_rfl) (by kernel_rfl) (by kernel_rfl) (fun _ _ _ h => h) (by rfl) ?_ (by assumption) ?_
  rotate_left
  · intro w hSw; (try dsimp only at hSw); go_simp; (try with_reducible rfl)
  (try simp only [Act.put, onA25, List.setIfInBounds_toArray, List.set_cons_zero, List.set_cons_succ])
  refine tkW (v := ?_) 26 onA26 rfl (by kernel_rfl) (by kernel_rfl) (by kernel_rfl) (fun _ _ _ h => h) (by rfl) ?_ (by assumption) ?_
  rotate_left
  · intro w hSw; (try dsimp only at hSw); go_simp; (try with_reducible rfl)
  (try simp only [Act.put, onA26, List.setIfInBounds_toArray, List.set_cons_zero, List.set_cons_succ])
  refine tkW (v := ?_) 27 onA27 rfl (by kernel_rfl) (by kernel_rfl) (by kernel_rfl) (fun _ _ _ h => h) (by rfl) ?_ (by assumption) ?_
  rotate_left
  · intro w hSw; (try dsimp only at hSw); go_simp; (try with_reducible rfl)
  (try simp only [Act.put, onA27, List.setIfInBounds_toArray, List.set_cons_zero, List.set_cons_succ])
  refine tkW (v := ?_) 28 onA28 rfl (by kernel_rfl) (by kernel_rfl) (by kernel_rfl) (fun _ _ _ h => h) (by rfl) ?_ (by assumption) ?_
  rotate_left
  · intro w hSw; (try dsimp only at hSw); go_simp; (try with_reducible rfl)
  (try simp only [Act.put, onA28, List.setIfInBounds_toArray, List.set_cons_zero, List.set_cons_succ])
  refine tkW (v := ?_) 30 onA30 rfl (by kernel_rfl) (by kernel_rfl) (by kernel_rfl) (fun _ _ _ h => h) (by rfl) ?_ (by assumption) ?_
  rotate_left
  · intro w hSw; (try dsimp only at hSw); go_simp; (try with_reducible rfl)
  (try simp only [Act.put, onA30, List.setIfInBounds_toArray, List.set_cons_zero, List.set_cons_succ])
  refine tkW (v := ?_) 31 onA31 rfl (by kernel_rfl) (by kernel_rfl) (by kernel_rfl) (fun _ _ _ h => h) (by rfl) ?_ (by assumption) ?_
  rotate_left
  · intro w hSw; (try dsimp only at hSw); go_simp; (try with_reducible rfl)
  (try simp only [Act.put, onA31, List.setIfInBounds_toArray, List.set_cons_zero, List.set_cons_succ])
  refine tkE 29 onA29 rfl (by kernel_rfl) (fun K hK => ?_)
  go_simp
  (refine (IN.out _ (K00.out.trans (K5.out.trans (by first | assumption | exact Kp.drew _)))).mono ?_; rintro e ws7 ⟨rfl, k1⟩; have k2 := Kp.trans (show Kp w5 _ from (by first | assumption | exact Kp.drew _)) k1; clear k1)
  (try go_wp2_with fail)
  refine hK.out _ _ ?_ (fun hHeld8 => ?_)
  · (try dsimp only); exact KS.out _ (by first | assumption | exact Kp.drew _)
  clear hK K hHeld7
  (try simp only [Act.put, onA29, List.setIfInBounds_toArray, List.set_cons_zero, List.set_cons_succ])
  refine tkE 32 onA32 rfl (by kernel_rfl) (fun K hK => ?_)
  go_simp
  (refine (SX.out _ _ (NV4.out.kp (K5.out.trans (by first | assumption | exact Kp.drew _))) (K00.out.trans (K5.out.trans (by first | assumption | exact Kp.drew _)))).mono ?_; rintro e ws8 ⟨rfl, k1⟩; have k2 := Kp.trans (show Kp w5 _ from (by first | assumption | exact Kp.drew _)) k1; clear k1)
  (try go_wp2_with fail)
  refine hK.out _ _ ?_ (fun hHeld9 => ?_)
  · (try dsimp only); exact KS.out _ (by first | assumption | exact Kp.drew _)
  clear hK K hHeld8
  (try simp only [Act.put, onA32, List.setIfInBounds_toArray, List.set_cons_zero, List.set_cons_succ])
  refine tkW (v := ?_) 33 onA33 rfl (by kernel_rfl) (by kernel_rfl) (by kernel_rfl) (fun _ _ _ h => h) (by rfl) ?_ (by assumption) ?_
  rotate_left
  · intro w hSw; (try dsimp only at hSw); go_simp; (try with_reducible rfl)
  (try simp only [Act.put, onA33, List.setIfInBounds_toArray, List.set_cons_zero, List.set_cons_succ])
  refine tkW (v := ?_) 34 onA34 rfl (by kernel_rfl) (by kernel_rfl) (by kernel_rfl) (fun _ _ _ h => h) (by rfl) ?_ (by assumption) ?_
  rotate_left
  · intro w hSw; (try dsimp only at hSw); go_simp; (try with_reducible rfl)
  (try simp only [Act.put, onA34, List.setIfInBounds_toArray, List.set_cons_zero, List.set_cons_succ])
  refine wpAnyH_done (by kernel_rfl) ?_ _
  clear c0 c1 c2 c3 c4 c5 c6 c7 c8 c9 c10 c11 c12 c13 c14 c15
  have K6 := Lib.hid (K5.out.trans k2)
  obtain ⟨c0, c1, c2, c3, c4, c5, c6, c7, c8, c9, c10, c11, c12, c13, c14, c15⟩ := HB.out _ K6.out
  clear k2
  have z2 : decide ((l1.length : Int) < 2) = false := decide_eq_false (by omega)
  go_wp2
  go_loopw [5] (fun x ws => ∃ j : Nat, j + 1 ≤ l1.length ∧ x = .int .i64 ((j : Int) + 1) ∧ Hid (Kp w4 ws)) (fun x _ => l1.length - (intOf x).toNat)
  case atStart => exact ⟨0, by omega, rfl, K6⟩
  case round =>
    obtain ⟨j, hj, rfl, KL⟩ := hrel
    obtain ⟨d0, d1, d2, d3, d4, d5, d6, d7, d8, d9, d10, d11, d12, d13, d14, d15⟩ := HB.out _ KL.out
    by_cases hlt : j + 1 < l1.length
    · have ra := HR.out (by first | rfl | trivial) j hlt
      have sa := HE.out (by first | rfl | trivial) j (by omega)
      have sb := HE.out (by first | rfl | trivial) (j + 1) hlt
      obtain ⟨bk, off, va, eva, ha, na⟩ := (NV4.out.kp KL.out).get (i := j) (by omega)
      obtain ⟨bk', off', vb, evb, hb, nb⟩ := (NV4.out.kp KL.out).get (i := j + 1) hlt
      subst eva
      cases evb
      have PA := Lib.hid (fun w1 (kk : Kp wr w1) => PX.out (nth l1 j) va w1 (na.kp kk) (by have := (cn_right sa).2; omega) (K00.out.trans (KL.out.trans kk)))
      have PB := Lib.hid (fun w1 (kk : Kp wr w1) => PX.out (nth l1 (j + 1)) vb w1 (nb.kp kk) (by have := (cn_right sb).2; omega) (K00.out.trans (KL.out.trans kk)))
      rw [text_sane sa] at PA
      rw [text_sane sb] at PB
      obtain ⟨x, hx⟩ : ∃ x, nth l1 j = x := ⟨_, rfl⟩
      obtain ⟨z, hz⟩ : ∃ x, nth l1 (j + 1) = x := ⟨_, rfl⟩
      rw [hx] at PA ha na ra
      rw [hz] at PB hb nb ra
      obtain ⟨tA, hA⟩ : ∃ u, bs (txN x) = u := ⟨_, rfl⟩
      obtain ⟨tB, hB⟩ : ∃ u, bs (txN z) = u := ⟨_, rfl⟩
      have lt : Go.Op.bytesLess tA.toList tB.toList = true := by rw [← hA, ← hB, bs_toList, bs_toList]; exact ra
      rw [hA] at PA
      rw [hB] at PB
      clear sa sb hx hz hA hB ra
      obtain ⟨k2, pk2, y2, m2, s2, a2, t2, l2, rfl⟩ := nd_dest x
      obtain ⟨k3, pk3, y3, m3, s3, a3, t3, l3, rfl⟩ := nd_dest z
      obtain ⟨ad2, cp2, rfl⟩ := na.slice
      obtain ⟨ad3, cp3, rfl⟩ := nb.slice
      unfold RowN at ha hb
      (try unfold ndV at PA PB)
      simp only [ND.k, ND.p, ND.a, ND.t, ND.l] at ha hb
      (try simp only [ND.k, ND.p, ND.a, ND.t, ND.l] at PA PB)
      (try dsimp only at PA PB)
      (try simp only [ND.l] at na nb)
      obtain ⟨n2, hn2⟩ : ∃ n, l2.length = n := ⟨_, rfl⟩
      obtain ⟨n3, hn3⟩ : ∃ n, l3.length = n := ⟨_, rfl⟩
      rw [hn2] at ha PA
      rw [hn3] at hb PB
      obtain ⟨e0, e1, e2, e3, e4, e5, e6, e7⟩ := ha
      obtain ⟨f0, f1, f2, f3, f4, f5, f6, f7⟩ := hb
      have z1 : (j : Int) < (l1.length : Int) := by omega
      have z3 : (0 : Int) ≤ (j : Int) := by omega
      have z4 : ((j : Int) + 1) < (l1.length : Int) := by omega
      have z5 : (0 : Int) ≤ (j : Int) + 1 := by omega
      have z6 : (l1.length : Int) ≤ 9223372036854775807 := by have := LM.out; omega
      have wj : IntKind.i64.wrap (j : Int) = (j : Int) := by rw [IntKind.wrap_i64]; omega
      have HLT := Lib.hid hlt
      clear hlt hn2 hn3 na nb
      have KS := Lib.hid (fun w' (kq : Kp wr w') => show w'.cell? ⟨w.heap.size, 0, none⟩ = some (.int .i64 kn) ∧ w'.cell? ⟨w.heap.size, 1, none⟩ = some (.int .i64 pkn) ∧ w'.cell? ⟨w.heap.size, 2, none⟩ = some (.string yn) ∧ w'.cell? ⟨w.heap.size, 3, none⟩ = some (.string mn) ∧ w'.cell? ⟨w.heap.size, 4, none⟩ = some (.string qn) ∧ w'.cell? ⟨w.heap.size, 5, none⟩ = some (.bool an) ∧ w'.cell? ⟨w.heap.size, 6, none⟩ = some (.bool tn) ∧ w'.cell? ⟨w.heap.size, 7, none⟩ = some (.slice adn ln.length cpn) ∧ w'.cell? ⟨w3.heap.size, 0, none⟩ = some (.int .i64 2) ∧ w'.cell? ⟨w3.heap.size, 1, none⟩ = some (.int .i64 pk1) ∧ w'.cell? ⟨w3.heap.size, 2, none⟩ = some (.string y1) ∧ w'.cell? ⟨w3.heap.size, 3, none⟩ = some (.string m1) ∧ w'.cell? ⟨w3.heap.size, 4, none⟩ = some (.string s1) ∧ w'.cell? ⟨w3.heap.size, 5, none⟩ = some (.bool a1) ∧ w'.cell? ⟨w3.heap.size, 6, none⟩ = some (.bool t1) ∧ w'.cell? ⟨w3.heap.size, 7, none⟩ = some (.slice (some ⟨bk, off, none⟩) l1.length cpc) ∧ w'.cell? ⟨bk, off + j * 8, none⟩ = some (.int .i64 k2) ∧ w'.cell? ⟨bk, off + j * 8 + 1, none⟩ = some (.int .i64 pk2) ∧ w'.cell? ⟨bk, off + j * 8 + 2, none⟩ = some (.string y2) ∧ w'.cell? ⟨bk, off + j * 8 + 3, none⟩ = some (.string m2) ∧ w'.cell? ⟨bk, off + j * 8 + 4, none⟩ = some (.string s2) ∧ w'.cell? ⟨bk, off + j * 8 + 5, none⟩ = some (.bool a2) ∧ w'.cell? ⟨bk, off + j * 8 + 6, none⟩ = some (.bool t2) ∧ w'.cell? ⟨bk, off + j * 8 + 7, none⟩ = some (.slice ad2 n2 cp2) ∧ w'.cell? ⟨bk, off + (j + 1) * 8, none⟩ = some (.int .i64 k3) ∧ w'.cell? ⟨bk, off + (j + 1) * 8 + 1, none⟩ = some (.int .i64 pk3) ∧ w'.cell? ⟨bk, off + (j + 1) * 8 + 2, none⟩ = some (.string y3) ∧ w'.cell? ⟨bk, off + (j + 1) * 8 + 3, none⟩ = some (.string m3) ∧ w'.cell? ⟨bk, off + (j + 1) * 8 + 4, none⟩ = some (.string s3) ∧ w'.cell? ⟨bk, off + (j + 1) * 8 + 5, none⟩ = some (.bool a3) ∧ w'.cell? ⟨bk, off + (j + 1) * 8 + 6, none⟩ = some (.bool t3) ∧ w'.cell? ⟨bk, off + (j + 1) * 8 + 7, none⟩ = some (.slice ad3 n3 cp3) ∧ Kp wr w' from ⟨(HB.out w' (KL.out.trans kq)).1, (HB.out w' (KL.out.trans kq)).2.1, (HB.out w' (KL.out.trans kq)).2.2.1, (HB.out w' (KL.out.trans kq)).2.2.2.1, (HB.out w' (KL.out.trans kq)).2.2.2.2.1, (HB.out w' (KL.out.trans kq)).2.2.2.2.2.1, (HB.out w' (KL.out.trans kq)).2.2.2.2.2.2.1, (HB.out w' (KL.out.trans kq)).2.2.2.2.2.2.2.1, (HB.out w' (KL.out.trans kq)).2.2.2.2.2.2.2.2.1, (HB.out w' (KL.out.trans kq)).2.2.2.2.2.2.2.2.2.1, (HB.out w' (KL.out.trans kq)).2.2.2.2.2.2.2.2.2.2.1, (HB.out w' (KL.out.trans kq)).2.2.2.2.2.2.2.2.2.2.2.1, (HB.out w' (KL.out.trans kq)).2.2.2.2.2.2.2.2.2.2.2.2.1, (HB.out w' (KL.out.trans kq)).2.2.2.2.2.2.2.2.2.2.2.2.2.1, (HB.out w' (KL.out.trans kq)).2.2.2.2.2.2.2.2.2.2.2.2.2.2.1, (HB.out w' (KL.out.trans kq)).2.2.2.2.2.2.2.2.2.2.2.2.2.2.2, cell_up kq e0, cell_up kq e1, cell_up kq e2, cell_up kq e3, cell_up kq e4, cell_up kq e5, cell_up kq e6, cell_up kq e7, cell_up kq f0, cell_up kq f1, cell_up kq f2, cell_up kq f3, cell_up kq f4, cell_up kq f5, cell_up kq f6, cell_up kq f7, kq⟩)
      go_wp2_with fail
      refine wp_region_held_drew (S := fun w' => w'.cell? ⟨w.heap.size, 0, none⟩ = some (.int .i64 kn) ∧ w'.cell? ⟨w.heap.size, 1, none⟩ = some (.int .i64 pkn) ∧ w'.cell? ⟨w.heap.size, 2, none⟩ = some (.string yn) ∧ w'.cell? ⟨w.heap.size, 3, none⟩ = some (.string mn) ∧ w'.cell? ⟨w.heap.size, 4, none⟩ = some (.string qn) ∧ w'.cell? ⟨w.heap.size, 5, none⟩ = some (.bool an) ∧ w'.cell? ⟨w.heap.size, 6, none⟩ = some (.bool tn) ∧ w'.cell? ⟨w.heap.size, 7, none⟩ = some (.slice adn ln.length cpn) ∧ w'.cell? ⟨w3.heap.size, 0, none⟩ = some (.int .i64 2) ∧ w'.cell? ⟨w3.heap.size, 1, none⟩ = some (.int .i64 pk1) ∧ w'.cell? ⟨w3.heap.size, 2, none⟩ = some (.string y1) ∧ w'.cell? ⟨w3.heap.size, 3, none⟩ = some (.string m1) ∧ w'.cell? ⟨w3.heap.size, 4, none⟩ = some (.string s1) ∧ w'.cell? ⟨w3.heap.size, 5, none⟩ = some (.bool a1) ∧ w'.cell? ⟨w3.heap.size, 6, none⟩ = some (.bool t1) ∧ w'.cell? ⟨w3.heap.size, 7, none⟩ = some (.slice (some ⟨bk, off, none⟩) l1.length cpc) ∧ w'.cell? ⟨bk, off + j * 8, none⟩ = some (.int .i64 k2) ∧ w'.cell? ⟨bk, off + j * 8 + 1, none⟩ = some (.int .i64 pk2) ∧ w'.cell? ⟨bk, off + j * 8 + 2, none⟩ = some (.string y2) ∧ w'.cell? ⟨bk, off + j * 8 + 3, none⟩ = some (.string m2) ∧ w'.cell? ⟨bk, off + j * 8 + 4, none⟩ = some (.string s2) ∧ w'.cell? ⟨bk, off + j * 8 + 5, none⟩ = some (.bool a2) ∧ w'.cell? ⟨bk, off + j * 8 + 6, none⟩ = some (.bool t2) ∧ w'.cell? ⟨bk, off + j * 8 + 7, none⟩ = some (.slice ad2 n2 cp2) ∧ w'.cell? ⟨bk, off + (j + 1) * 8, none⟩ = some (.int .i64 k3) ∧ w'.cell? ⟨bk, off + (j + 1) * 8 + 1, none⟩ = some (.int .i64 pk3) ∧ w'.cell? ⟨bk, off + (j + 1) * 8 + 2, none⟩ = some (.string y3) ∧ w'.cell? ⟨bk, off + (j + 1) * 8 + 3, none⟩ = some (.string m3) ∧ w'.cell? ⟨bk, off + (j + 1) * 8 + 4, none⟩ = some (.string s3) ∧ w'.cell? ⟨bk, off + (j + 1) * 8 + 5, none⟩ = some (.bool a3) ∧ w'.cell? ⟨bk, off + (j + 1) * 8 + 6, none⟩ = some (.bool t3) ∧ w'.cell? ⟨bk, off + (j + 1) * 8 + 7, none⟩ = some (.slice ad3 n3 cp3) ∧ Kp wr w') (by kernel_rfl) ?_ (fun hHeld0 => ?_)
      · (try dsimp only); exact KS.out _ (by first | assumption | exact Kp.drew _)
      refine tkW (v := ?_) 0 onB0 rfl (by kernel_rfl) (by kernel_rfl) (by kernel_rfl) (fun _ _ _ h => h) (by rfl) ?_ (by assumption) ?_
      rotate_left
      · intro w hSw; (try dsimp only at hSw); go_simp; (try with_reducible rfl)
      (try simp only [Act.put, onB0, List.setIfInBounds_toArray, List.set_cons_zero, List.set_cons_succ])
      refine tkW (v := ?_) 1 onB1 rfl (by kernel_rfl) (by kernel_rfl) (by kernel_rfl) (fun _ _ _ h => h) (by rfl) ?_ (by assumption) ?_
      rotate_left
      · intro w hSw; (try dsimp only at hSw); go_simp; (try with_reducible rfl)
      (try simp only [Act.put, onB1, List.setIfInBounds_toArray, List.set_cons_zero, List.set_cons_succ])
      refine tkW (v := ?_) 2 onB2 rfl (by kernel_rfl) (by kernel_rfl) (by kernel_rfl) (fun _ _ _ h => h) (by rfl) ?_ (by assumption) ?_
      rotate_left
      · intro w hSw; (try dsimp only at hSw); go_simp; (try with_reducible rfl)
      (try simp only [Act.put, onB2, List.setIfInBounds_toArray, List.set_cons_zero, List.set_cons_succ])
      refine tkW (v := ?_) 3 onB3 rfl (by kernel_rfl) (by kernel_rfl) (by kernel_rfl) (fun _ _ _ h => h) (by rfl) ?_ (by assumption) ?_
      rotate_left
      · intro w hSw; (try dsimp only at hSw); go_simp; (try with_reducible rfl)
      (try simp only [Act.put, onB3, List.setIfInBounds_toArray, List.set_cons_zero, List.set_cons_succ])
      refine tkW (v := ?_) 4 onB4 rfl (by kernel_rfl) (by kernel_rfl) (by kernel_rfl) (fun _ _ _ h => h) (by rfl) ?_ (by assumption) ?_
      rotate_left
      · intro w hSw; (try dsimp only at hSw); go_simp; (try with_reducible rfl)
      (try simp only [Act.put, onB4, List.setIfInBounds_toArray, List.set_cons_zero, List.set_cons_succ])
      refine tkW (v := ?_) 5 onB5 rfl (by kernel_rfl) (by kernel_rfl) (by kernel_rfl) (fun _ _ _ h => h) (by rfl) ?_ (by assumption) ?_
      rotate_left
      · intro w hSw; (try dsimp only at hSw); go_simp; (try with_reducible rfl)
      (try simp only [Act.put, onB5, List.setIfInBounds_toArray, List.set_cons_zero, List.set_cons_succ])
      refine tkW (v := ?_) 7 onB7 rfl (by kernel_rfl) (by kernel_rfl) (by kernel_rfl) (fun _ _ _ h => h) (by rfl) ?_ (by assumption) ?_
      rotate_left
      · intro w hSw; (try dsimp only at hSw); go_simp; (try with_reducible rfl)
      (try simp only [Act.put, onB7, List.setIfInBounds_toArray, List.set_cons_zero, List.set_cons_succ])
      refine tkW (v := ?_) 8 onB8 rfl (by kernel_rfl) (by kernel_rfl) (by kernel_rfl) (fun _ _ _ h => h) (by rfl) ?_ (by assumption) ?_
      rotate_left
      · intro w hSw; (try dsimp only at hSw); go_simp; (try with_reducible rfl)
      (try simp only [Act.put, onB8, List.setIfInBounds_toArray, List.set_cons_zero, List.set_cons_succ])
      refine tkW (v := ?_) 9 onB9 rfl (by kernel_rfl) (by kernel_rfl) (by kernel_rfl) (fun _ _ _ h => h) (by rfl) ?_ (by assumption) ?_
      rotate_left
      · intro w hSw; (try dsimp only at hSw); go_simp; (try with_reducible rfl)
      (try simp only [Act.put, onB9, List.setIfInBounds_toArray, List.set_cons_zero, List.set_cons_succ])
      refine tkW (v := ?_) 10 onB10 rfl (by kernel_rfl) (by kernel_rfl) (by kernel_rfl) (fun _ _ _ h => h) (by rfl) ?_ (by assumption) ?_
      rotate_left
      · intro w hSw; (try dsimp only at hSw); go_simp; (try with_reducible rfl)
      (try simp only [Act.put, onB10, List.setIfInBounds_toArray, List.set_cons_zero, List.set_cons_succ])
      refine tkW (v := ?_) 11 onB11 rfl (by kernel_rfl) (by kernel_rfl) (by kernel_rfl) (fun _ _ _ h => h) (by rfl) ?_ (by assumption) ?_
      rotate_left
      · intro w hSw; (try dsimp only at hSw); go_simp; (try with_reducible rfl)
      (try simp only [Act.put, onB11, List.setIfInBounds_toArray, List.set_cons_zero, List.set_cons_succ])
      refine tkE 6 onB6 rfl (by kernel_rfl) (fun K hK => ?_)
      go_simp
      (refine (PA.out _ (by first | assumption | exact Kp.drew _)).mono ?_; rintro e wt0 ⟨rfl, k1⟩; have k2 := Kp.trans (show Kp wr _ from (by first | assumption | exact Kp.drew _)) k1; clear k1)
      (try go_wp2_with fail)
      refine hK.out _ _ ?_ (fun hHeld1 => ?_)
      · (try dsimp only); exact KS.out _ (by first | assumption | exact Kp.drew _)
      clear hK K hHeld0
      (try simp only [Act.put, onB6, List.setIfInBounds_toArray, List.set_cons_zero, List.set_cons_succ])
      refine tkE 12 onB12 rfl (by kernel_rfl) (fun K hK => ?_)
      go_simp
      (refine (PB.out _ (by first | assumption | exact Kp.drew _)).mono ?_; rintro e wt1 ⟨rfl, k1⟩; have k2 := Kp.trans (show Kp wr _ from (by first | assumption | exact Kp.drew _)) k1; clear k1)
      (try go_wp2_with fail)
      refine hK.out _ _ ?_ (fun hHeld2 => ?_)
      · (try dsimp only); exact KS.out _ (by first | assumption | exact Kp.drew _)
      clear hK K hHeld1
      (try simp only [Act.put, onB12, List.setIfInBounds_toArray, List.set_cons_zero, List.set_cons_succ])
      refine tkW (v := ?_) 13 onB13 rfl (by kernel_rfl) (by kernel_rfl) (by kernel_rfl) (fun _ _ _ h => h) (by rfl) ?_ (by assumption) ?_
      rotate_left
      · intro w hSw; (try dsimp only at hSw); go_simp; (try with_reducible rfl)
      (try simp only [Act.put, onB13, List.setIfInBounds_toArray, List.set_cons_zero, List.set_cons_succ])
      refine wpAnyH_done (by kernel_rfl) ?_ _
      go_wp2
      go_roundw
      case rel => exact ⟨j + 1, by have := HLT.out; omega, by go_num, Lib.hid (KL.out.trans k2)⟩
      case measure => have := HLT.out; simp [intOf]; omega
    · have q1 : decide ((j : Int) + 1 < (l1.length : Int)) = false := decide_eq_false (by omega)
      have q2 : decide (j + 1 < l1.length) = false := decide_eq_false hlt
      go_wp2
      go_ret
      exact ⟨rfl, K00.out.trans KL.out⟩
theorem canonOnce_walk (n : ND) (un : Value) (w : World) (hn : NodesAt w un n.l) (T : TabSH w) :
    Calls Tryd.prog 4 #[ndV n un] w fun e w' => e = .returned (.bool true) ∧ Kp w w' := by
  rcases Bool.eq_false_or_eq_true (fewG n) with hf | hf
  · rcases Bool.eq_false_or_eq_true (saneN saneP n) with hs | hs
    · by_cases hk : (canN n).k = 2
      · exact conce_list n un w hn T hf hs hk
      · exact conce_one n un w hn T hf hs hk
    · exact conce_no n un w hn T hf hs
  · exact conce_long n un w hn T hf
end Go.Proofs.YtgmigeehfhkimaaDoor

namespace Go.Proofs.YtgmigeehfhkimaaDoor.lawCanonOnce
open Go.ChangeShapes Go.WideShapes Go.ChangeAt Go.RowKit
open Go.ChangeMaps (open_string shut_string)
set_option linter.unusedVariables false

theorem own : ownKnob Tryd.prog.godebug = none := by kernel_rfl
theorem laidOut : laidOutB Tryd.prog = true := by kernel_rfl

/-- A world for the witness: the settled one, each table holding what its initialiser lays. -/
noncomputable def laidWorld (os : Os) : World :=
  { World.holding Tryd.prog os ⟨#[], #[], []⟩ with heap := ((World.holding Tryd.prog os ⟨#[], #[], []⟩).heap.modify 0 fun
      | .cells _ t frozen => .cells #[.int .i64 4, .int .i64 2, .int .i64 2, .int .i64 12, .string ⟨#[]⟩, .int .i64 4, .int .i64 2, .int .i64 0, .int .i64 12, .string ⟨#[]⟩, .int .i64 4, .int .i64 1, .int .i64 0, .int .i64 4, .string ⟨#[]⟩, .int .i64 4, .int .i64 0, .int .i64 0, .int .i64 0, .string ⟨#[]⟩, .int .i64 3, .int .i64 0, .int .i64 0, .int .i64 0, .string ⟨#[100]⟩, .int .i64 2, .int .i64 0, .int .i64 0, .int .i64 0, .string ⟨#[99]⟩] t frozen
      | o => o) }
theorem laid_met (os : Os) : laidMet Tryd.prog Rows.canonOnceRow.laid ((laidWorld os).forCall (fun _ _ => 0) ⟨#[], #[.agg #[.int .i64 0, .int .i64 0, .string ByteArray.empty, .string ByteArray.empty, .string ByteArray.empty, .bool false, .bool false, .slice none 0 0]], []⟩).memory :=
  laidMet_of_run' 8 (by kernel_rfl) (by kernel_rfl)
theorem reads (os : Os) {H : Type} (enc : TypeId × Value → H) : ∃ places, DataW.whole enc Tryd.prog ((laidWorld os).forCall (fun _ _ => 0) ⟨#[], #[.agg #[.int .i64 0, .int .i64 0, .string ByteArray.empty, .string ByteArray.empty, .string ByteArray.empty, .bool false, .bool false, .slice none 0 0]], []⟩).memory Tryd.f4.params.toList Rows.canonOnceSpec.vars false (#[.agg #[.int .i64 0, .int .i64 0, .string ByteArray.empty, .string ByteArray.empty, .string ByteArray.empty, .bool false, .bool false, .slice none 0 0]] : Array Value).toList 8 = some ([.agg [.lit (.int .i64 0), .agg [.lit (.int .i64 0), .lit (.string []), .lit (.string []), .lit (.string [])], .lit (.bool false), .lit (.bool false), .nil]], [], places) :=
  ⟨[], by kernel_rfl⟩

set_option maxRecDepth 100000 in
theorem contract (H : Type) (enc : TypeId × Value → H) (W : World) (base : Nat) (args : Array Value) (ds gs : List (DataW H)) (before : List MemPlace)
    (hval : ∀ (j : Nat) t v, Tryd.f4.params[j]? = some t → args[j]? = some v → Value.okWide Tryd.prog W .any base t v)
    (hW : DataW.Whole enc Tryd.prog Tryd.f4.params.toList Rows.canonOnceSpec.vars false W args.toList ds gs before) (hL : laidMetH Tryd.prog Rows.canonOnceRow.laid W) :
    Calls Tryd.prog 4 args W fun e W' => ∃ v, e = .returned v ∧ Rows.canonOnceSpec.post enc Tryd.prog Tryd.f4 false true false false W args v W' := by
  have hW' := hW
  have hltA : ∀ x ∈ before, x.block < W.heap.size := fun x hx => by simpa using hW'.lt x hx
  obtain ⟨p, q, hA0, hV, rfl, hfz, hnd⟩ := hW
  have hA : DataW.TrodAll enc Tryd.prog W 0 (fun _ => true) true Tryd.f4.params.toList args.toList ds p := hA0
  rw [Tryd.params4] at hA hval
  obtain ⟨v0, vs0, d0, ds0, p0, q0, hargs, rfl, rfl, h0, r0⟩ := trodAll_cons hA
  obtain ⟨rfl, rfl, rfl⟩ := trodAll_nil r0
  obtain rfl : args = #[v0] := by cases args; simp_all
  obtain ⟨rfl, rfl⟩ := trodVars_none hV
  have hk0 := h0
  obtain ⟨n0, u0, rfl, hn0, gn0, wg0⟩ := open_node (hval 0 26 v0 rfl rfl) h0
  clear hA0
  simp only [List.append_nil] at hW'
  refine (canonOnce_walk n0 u0 W hn0 (tabs_of1 hL)).mono fun e W' ⟨he, hg⟩ => ?_
  subst he
  have bel : Below W.heap.size W W' := hg
  exact ⟨_, rfl, _, _, _, [], _, [], hW', trodAll_mk1 (shut_bool Tryd.underlying4 _), (trodAll_cons_mk (Below.trod laidOut (by kernel_rfl) (of_decide_eq_true (by kernel_rfl)) hk0 bel (fun x hx => hltA x (by simp [hx]))) trodAll_mk0), rfl, bel.frame _, fun h => by cases h⟩

set_option maxRecDepth 100000 in
theorem lifted (os : Os) (started : os.Started) (H : Type) (enc : TypeId × Value → H) (F : Stop.Interp) :
    ReturnsInHanded {} Tryd.checked os 4 .any ((OpenSpec.ofChange Rows.canonOnceSpec).preRow enc Tryd.prog Tryd.f4 Rows.canonOnceRow.domain false Rows.canonOnceRow.laid) (((OpenSpec.ofChange Rows.canonOnceSpec).at F).post enc Tryd.prog Tryd.f4 false true false false) := by
  obtain ⟨places, hx⟩ := reads os enc
  refine returnsInHanded_of_row (C := Tryd.checked) (s := OpenSpec.ofChange Rows.canonOnceSpec) own started (by kernel_rfl) Tryd.func4
    (witness_row_at (enc := enc) (C := Tryd.checked) false (laidWorld os) #[.agg #[.int .i64 0, .int .i64 0, .string ByteArray.empty, .string ByteArray.empty, .string ByteArray.empty, .bool false, .bool false, .slice none 0 0]] rfl (by kernel_rfl) (by kernel_rfl) (by kernel_rfl)
      (OpenSpec.preRow_of_cond 8 hx (by kernel_rfl) (fun k hk => by cases hk) (by kernel_rfl) (laid_met os))) ?_
  intro W base args ds gs before hval hW _ hcond _ hL _ _
  exact contract H enc W base args ds gs before hval hW hL

theorem said : Rows.CanonOnceSaid :=
  OpenClaim.holds_of_cond 4 Tryd.f4 rfl rfl rfl rfl rfl rfl rfl ⟨rfl, rfl, rfl, rfl, rfl⟩ rfl rfl rfl rfl rfl (by kernel_rfl) Tryd.func4 (by kernel_rfl)
    (of_decide_eq_true (by kernel_rfl)) (by unfold Func.isWrapper; first | (rw [if_pos (by decide +kernel)]; kernel_rfl) | (rw [if_neg (by decide +kernel)]; exact ⟨rfl, rfl⟩))
    (fun os started H enc _ F => by rw [OpenClaim.pre_eq_preRow]; exact lifted os started H enc F)

theorem plain (f : FuncId) (fn : Func) (hf : Tryd.pinned.checked.prog.funcNamed "lustrum/lustrumlaw12.CanonOnce" = some f) (hfn : Tryd.pinned.checked.prog.funcs[f]? = some fn) :
    true = Tryd.pinned.checked.prog.looks [] ∧ ∀ (j : Nat) t, fn.params[j]? = some t → Tryd.pinned.checked.prog.wantsStandIn t = false := by
  obtain rfl : f = 4 := Option.some.inj ((show Tryd.prog.funcNamed "lustrum/lustrumlaw12.CanonOnce" = some 4 by kernel_rfl).symm.trans hf) |>.symm
  obtain rfl : fn = Tryd.f4 := (Option.some.inj (Tryd.func4.symm.trans hfn)).symm
  refine ⟨by kernel_rfl, fun j t ht => ?_⟩
  rw [Tryd.params4] at ht
  have hm := Array.mem_of_getElem? ht
  have ho : t = 26 := by first | simpa using hm | (simp at hm; rcases hm with h <;> simp [h])
  subst ho
  exact (show Tryd.prog.wantsStandIn 26 = false by kernel_rfl)

/-- THE CARD. -/
theorem proved : Rows.CanonOnceCardSaid :=
  Claim7.holds_tied_plain_at .later [] _ _ _ _ said (fun _ h => by cases h) (by kernel_rfl) (fun _ h => by cases h) canonOnce_row_tie rfl ⟨rfl, rfl⟩ (by kernel_rfl) rfl plain (by kernel_rfl)
#print axioms proved
end Go.Proofs.YtgmigeehfhkimaaDoor.lawCanonOnce
