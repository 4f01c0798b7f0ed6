/-
  Layer 22: the walk of NarrowHas.
-/
import Derived.Test.YtjdnejglapnbbaaGreatDoorNwN
import Derived.LoopTactic
namespace Go.Proofs.YtjdnejglapnbbaaGreatDoor
open Go.RowKit
set_option linter.unusedVariables false
set_option linter.unusedSimpArgs false
set_option maxHeartbeats 16000000 in
set_option maxRecDepth 100000 in
theorem nhas_f1 (vl : Value) (l : List LF) (vm : Value) (m : List LF) (pS pE : Int) (w : World) (rl : LeavesAt w vl l) (gl : ∀ f ∈ l, LeafG f) (rm : LeavesAt w vm m) (gm : ∀ f ∈ m, LeafG f) (hp1 : -9223372036854775808 ≤ pS) (hp2 : pS ≤ 9223372036854775807) (hp3 : -9223372036854775808 ≤ pE) (hp4 : pE ≤ 9223372036854775807) (T : Tabs w) (hf : few22 l = false) :
    Calls Tryz.prog 6 #[vl, vm, .agg #[.int .i64 pS, .int .i64 pE]] w fun e w' => e = .returned (.bool true) ∧ Kp w w' := by
  have RFL := Lib.hid (fun w1 (kk : Kp w w1) => few22_any vl l w1 (rl.kp kk) gl)
  have RFM := Lib.hid (fun w1 (kk : Kp w w1) => few22_any vm m w1 (rm.kp kk) gm)
  rw [hf] at RFL
  obtain ⟨adl, cal, rfl⟩ := rl.slice
  obtain ⟨adm, cam, rfl⟩ := rm.slice
  obtain ⟨W0, hW⟩ : ∃ W0, W0 = w.alloc (.cells #[.int .i64 pS, .int .i64 pE] 35) := ⟨_, rfl⟩
  have K00 := Lib.hid (show Kp w W0 by rw [hW]; exact Kp.alloc _ _)
  have HB := Lib.hid (fun w1 (k : Kp W0 w1) => show w1.cell? ⟨w.heap.size, 0, none⟩ = some (.int .i64 pS) ∧ w1.cell? ⟨w.heap.size, 1, none⟩ = some (.int .i64 pE) from ⟨cell_up k (show W0.cell? ⟨w.heap.size, 0, none⟩ = some (.int .i64 pS) by rw [hW]; simp), cell_up k (show W0.cell? ⟨w.heap.size, 1, none⟩ = some (.int .i64 pE) by rw [hW]; simp)⟩)
  obtain ⟨c0, c1⟩ := HB.out W0 (Kp.refl _)
  have K0 := Lib.hid (Kp.refl W0)
  have HW := Lib.hid hW
  clear hW
  have AW := Lib.hid (fun w1 (kk : Kp W0 w1) => awake22 w1 (T.kp (K00.out.trans kk)))
  have F1 := Lib.hid (fun w1 (kk : Kp W0 w1) => RFL.out w1 (K00.out.trans kk))
  have F2 := Lib.hid (fun w1 (kk : Kp W0 w1) => RFM.out w1 (K00.out.trans kk))
  clear rl rm gl gm T
  go_enter Tryz.func6, Tryz.ntmps6
  go_wp2_with fail
  rw [← HW.out]
  refine (AW.out _ (by first | with_reducible exact K0.out | with_reducible exact K0.out.trans (Kp.alloc _ _) | with_reducible exact (K0.out.trans (Kp.alloc _ _)).trans (Kp.alloc _ _) | with_reducible exact ((K0.out.trans (Kp.alloc _ _)).trans (Kp.alloc _ _)).trans (Kp.alloc _ _) | with_reducible exact K0.out.trans (Kp.drew _) | with_reducible exact K0.out.trans (Kp.drewN _ _))).mono ?_
  rintro e w1 ⟨rfl, kk⟩
  have K1 := Lib.hid ((show Kp W0 _ from (by first | with_reducible exact K0.out | with_reducible exact K0.out.trans (Kp.alloc _ _) | with_reducible exact (K0.out.trans (Kp.alloc _ _)).trans (Kp.alloc _ _) | with_reducible exact ((K0.out.trans (Kp.alloc _ _)).trans (Kp.alloc _ _)).trans (Kp.alloc _ _) | with_reducible exact K0.out.trans (Kp.drew _) | with_reducible exact K0.out.trans (Kp.drewN _ _))).trans kk)
  clear kk
  clear c0 c1
  obtain ⟨c0, c1⟩ := HB.out w1 K1.out
  go_wp2_with fail
  refine (F1.out _ (by first | with_reducible exact K1.out | with_reducible exact K1.out.trans (Kp.alloc _ _) | with_reducible exact (K1.out.trans (Kp.alloc _ _)).trans (Kp.alloc _ _) | with_reducible exact ((K1.out.trans (Kp.alloc _ _)).trans (Kp.alloc _ _)).trans (Kp.alloc _ _) | with_reducible exact K1.out.trans (Kp.drew _) | with_reducible exact K1.out.trans (Kp.drewN _ _))).mono ?_
  rintro e w2 ⟨rfl, kk⟩
  have K2 := Lib.hid ((show Kp W0 _ from (by first | with_reducible exact K1.out | with_reducible exact K1.out.trans (Kp.alloc _ _) | with_reducible exact (K1.out.trans (Kp.alloc _ _)).trans (Kp.alloc _ _) | with_reducible exact ((K1.out.trans (Kp.alloc _ _)).trans (Kp.alloc _ _)).trans (Kp.alloc _ _) | with_reducible exact K1.out.trans (Kp.drew _) | with_reducible exact K1.out.trans (Kp.drewN _ _))).trans kk)
  clear kk
  clear c0 c1
  obtain ⟨c0, c1⟩ := HB.out w2 K2.out
  go_wp2
  go_ret
  exact ⟨rfl, K00.out.trans K2.out⟩
set_option maxHeartbeats 16000000 in
set_option maxRecDepth 100000 in
theorem nhas_f2 (vl : Value) (l : List LF) (vm : Value) (m : List LF) (pS pE : Int) (w : World) (rl : LeavesAt w vl l) (gl : ∀ f ∈ l, LeafG f) (rm : LeavesAt w vm m) (gm : ∀ f ∈ m, LeafG f) (hp1 : -9223372036854775808 ≤ pS) (hp2 : pS ≤ 9223372036854775807) (hp3 : -9223372036854775808 ≤ pE) (hp4 : pE ≤ 9223372036854775807) (T : Tabs w) (hf : few22 l = true) (hg : few22 m = false) :
    Calls Tryz.prog 6 #[vl, vm, .agg #[.int .i64 pS, .int .i64 pE]] w fun e w' => e = .returned (.bool true) ∧ Kp w w' := by
  have RFL := Lib.hid (fun w1 (kk : Kp w w1) => few22_any vl l w1 (rl.kp kk) gl)
  have RFM := Lib.hid (fun w1 (kk : Kp w w1) => few22_any vm m w1 (rm.kp kk) gm)
  rw [hf] at RFL
  rw [hg] at RFM
  obtain ⟨adl, cal, rfl⟩ := rl.slice
  obtain ⟨adm, cam, rfl⟩ := rm.slice
  obtain ⟨W0, hW⟩ : ∃ W0, W0 = w.alloc (.cells #[.int .i64 pS, .int .i64 pE] 35) := ⟨_, rfl⟩
  have K00 := Lib.hid (show Kp w W0 by rw [hW]; exact Kp.alloc _ _)
  have HB := Lib.hid (fun w1 (k : Kp W0 w1) => show w1.cell? ⟨w.heap.size, 0, none⟩ = some (.int .i64 pS) ∧ w1.cell? ⟨w.heap.size, 1, none⟩ = some (.int .i64 pE) from ⟨cell_up k (show W0.cell? ⟨w.heap.size, 0, none⟩ = some (.int .i64 pS) by rw [hW]; simp), cell_up k (show W0.cell? ⟨w.heap.size, 1, none⟩ = some (.int .i64 pE) by rw [hW]; simp)⟩)
  obtain ⟨c0, c1⟩ := HB.out W0 (Kp.refl _)
  have K0 := Lib.hid (Kp.refl W0)
  have HW := Lib.hid hW
  clear hW
  have AW := Lib.hid (fun w1 (kk : Kp W0 w1) => awake22 w1 (T.kp (K00.out.trans kk)))
  have F1 := Lib.hid (fun w1 (kk : Kp W0 w1) => RFL.out w1 (K00.out.trans kk))
  have F2 := Lib.hid (fun w1 (kk : Kp W0 w1) => RFM.out w1 (K00.out.trans kk))
  clear rl rm gl gm T
  go_enter Tryz.func6, Tryz.ntmps6
  go_wp2_with fail
  rw [← HW.out]
  refine (AW.out _ (by first | with_reducible exact K0.out | with_reducible exact K0.out.trans (Kp.alloc _ _) | with_reducible exact (K0.out.trans (Kp.alloc _ _)).trans (Kp.alloc _ _) | with_reducible exact ((K0.out.trans (Kp.alloc _ _)).trans (Kp.alloc _ _)).trans (Kp.alloc _ _) | with_reducible exact K0.out.trans (Kp.drew _) | with_reducible exact K0.out.trans (Kp.drewN _ _))).mono ?_
  rintro e w1 ⟨rfl, kk⟩
  have K1 := Lib.hid ((show Kp W0 _ from (by first | with_reducible exact K0.out | with_reducible exact K0.out.trans (Kp.alloc _ _) | with_reducible exact (K0.out.trans (Kp.alloc _ _)).trans (Kp.alloc _ _) | with_reducible exact ((K0.out.trans (Kp.alloc _ _)).trans (Kp.alloc _ _)).trans (Kp.alloc _ _) | with_reducible exact K0.out.trans (Kp.drew _) | with_reducible exact K0.out.trans (Kp.drewN _ _))).trans kk)
  clear kk
  clear c0 c1
  obtain ⟨c0, c1⟩ := HB.out w1 K1.out
  go_wp2_with fail
  refine (F1.out _ (by first | with_reducible exact K1.out | with_reducible exact K1.out.trans (Kp.alloc _ _) | with_reducible exact (K1.out.trans (Kp.alloc _ _)).trans (Kp.alloc _ _) | with_reducible exact ((K1.out.trans (Kp.alloc _ _)).trans (Kp.alloc _ _)).trans (Kp.alloc _ _) | with_reducible exact K1.out.trans (Kp.drew _) | with_reducible exact K1.out.trans (Kp.drewN _ _))).mono ?_
  rintro e w2 ⟨rfl, kk⟩
  have K2 := Lib.hid ((show Kp W0 _ from (by first | with_reducible exact K1.out | with_reducible exact K1.out.trans (Kp.alloc _ _) | with_reducible exact (K1.out.trans (Kp.alloc _ _)).trans (Kp.alloc _ _) | with_reducible exact ((K1.out.trans (Kp.alloc _ _)).trans (Kp.alloc _ _)).trans (Kp.alloc _ _) | with_reducible exact K1.out.trans (Kp.drew _) | with_reducible exact K1.out.trans (Kp.drewN _ _))).trans kk)
  clear kk
  clear c0 c1
  obtain ⟨c0, c1⟩ := HB.out w2 K2.out
  go_wp2_with fail
  refine (F2.out _ (by first | with_reducible exact K2.out | with_reducible exact K2.out.trans (Kp.alloc _ _) | with_reducible exact (K2.out.trans (Kp.alloc _ _)).trans (Kp.alloc _ _) | with_reducible exact ((K2.out.trans (Kp.alloc _ _)).trans (Kp.alloc _ _)).trans (Kp.alloc _ _) | with_reducible exact K2.out.trans (Kp.drew _) | with_reducible exact K2.out.trans (Kp.drewN _ _))).mono ?_
  rintro e w3 ⟨rfl, kk⟩
  have K3 := Lib.hid ((show Kp W0 _ from (by first | with_reducible exact K2.out | with_reducible exact K2.out.trans (Kp.alloc _ _) | with_reducible exact (K2.out.trans (Kp.alloc _ _)).trans (Kp.alloc _ _) | with_reducible exact ((K2.out.trans (Kp.alloc _ _)).trans (Kp.alloc _ _)).trans (Kp.alloc _ _) | with_reducible exact K2.out.trans (Kp.drew _) | with_reducible exact K2.out.trans (Kp.drewN _ _))).trans kk)
  clear kk
  clear c0 c1
  obtain ⟨c0, c1⟩ := HB.out w3 K3.out
  go_wp2
  go_ret
  exact ⟨rfl, K00.out.trans K3.out⟩
abbrev nwhA0 : Oper := { dst := some 101, op := Go.Op.move (Go.Operand.tmp 7), type := 4, pos := "law.go:76", after := #[], guard := none }
abbrev nwhA1 : Oper := { dst := some 102, op := Go.Op.move (Go.Operand.tmp 101), type := 4, pos := "law.go:76", after := #[{ on := 0, ground := Go.Ground.data }], guard := none }
abbrev nwhA2 : Oper := { dst := some 103, op := Go.Op.move (Go.Operand.tmp 8), type := 22, pos := "law.go:76", after := #[{ on := 1, ground := Go.Ground.guard }], guard := some (1, true) }
abbrev nwhA3 : Oper := { dst := some 104, op := Go.Op.call { callee := Go.Callee.builtin Go.Builtin.len, args := #[Go.Operand.tmp 103], argTypes := #[22] }, type := 3, pos := "law.go:76", after := #[{ on := 2, ground := Go.Ground.data }, { on := 1, ground := Go.Ground.guard }], guard := some (1, true) }
abbrev nwhA4 : Oper := { dst := some 105, op := Go.Op.binOp Go.BinOp.gtr 3 (Go.Operand.tmp 104) (Go.Operand.const (Go.Value.int Go.IntKind.i64 0)) 3, type := 4, pos := "law.go:76", after := #[{ on := 3, ground := Go.Ground.data }, { on := 1, ground := Go.Ground.guard }], guard := some (1, true) }
abbrev nwhA5 : Oper := { dst := some 106, op := Go.Op.pick (Go.Operand.tmp 102) (Go.Operand.tmp 105) (Go.Operand.const (Go.Value.bool false)), type := 4, pos := "law.go:76", after := #[{ on := 1, ground := Go.Ground.data }, { on := 4, ground := Go.Ground.data }], guard := none }
abbrev nwhA6 : Oper := { dst := some 107, op := Go.Op.move (Go.Operand.tmp 106), type := 4, pos := "law.go:76", after := #[{ on := 5, ground := Go.Ground.data }, { on := 1, ground := Go.Ground.chain }], guard := none }
abbrev nwhA7 : Oper := { dst := some 108, op := Go.Op.move (Go.Operand.tmp 8), type := 22, pos := "law.go:76", after := #[{ on := 6, ground := Go.Ground.guard }], guard := some (6, true) }
abbrev nwhA8 : Oper := { dst := some 109, op := Go.Op.load 35 (Go.Operand.tmp 5), type := 35, pos := "law.go:76", after := #[{ on := 6, ground := Go.Ground.guard }], guard := some (6, true) }
abbrev nwhA9 : Oper := { dst := some 110, op := Go.Op.call { callee := Go.Callee.value (Go.Operand.func 32), args := #[Go.Operand.tmp 108, Go.Operand.tmp 109], argTypes := #[22, 35] }, type := 4, pos := "law.go:76", after := #[{ on := 7, ground := Go.Ground.data }, { on := 8, ground := Go.Ground.data }, { on := 6, ground := Go.Ground.chain }, { on := 6, ground := Go.Ground.guard }], guard := some (6, true) }
abbrev nwhA10 : Oper := { dst := some 111, op := Go.Op.move (Go.Operand.tmp 0), type := 22, pos := "law.go:76", after := #[{ on := 6, ground := Go.Ground.guard }], guard := some (6, true) }
abbrev nwhA11 : Oper := { dst := some 112, op := Go.Op.load 35 (Go.Operand.tmp 5), type := 35, pos := "law.go:76", after := #[{ on := 6, ground := Go.Ground.guard }], guard := some (6, true) }
abbrev nwhA12 : Oper := { dst := some 113, op := Go.Op.call { callee := Go.Callee.value (Go.Operand.func 32), args := #[Go.Operand.tmp 111, Go.Operand.tmp 112], argTypes := #[22, 35] }, type := 4, pos := "law.go:76", after := #[{ on := 10, ground := Go.Ground.data }, { on := 11, ground := Go.Ground.data }, { on := 9, ground := Go.Ground.chain }, { on := 6, ground := Go.Ground.guard }], guard := some (6, true) }
abbrev nwhA13 : Oper := { dst := some 114, op := Go.Op.move (Go.Operand.tmp 113), type := 4, pos := "law.go:76", after := #[{ on := 12, ground := Go.Ground.data }, { on := 12, ground := Go.Ground.chain }, { on := 6, ground := Go.Ground.guard }], guard := some (6, true) }
abbrev nwhA14 : Oper := { dst := some 115, op := Go.Op.move (Go.Operand.tmp 1), type := 22, pos := "law.go:76", after := #[{ on := 13, ground := Go.Ground.guard }], guard := some (13, true) }
abbrev nwhA15 : Oper := { dst := some 116, op := Go.Op.load 35 (Go.Operand.tmp 5), type := 35, pos := "law.go:76", after := #[{ on := 13, ground := Go.Ground.guard }], guard := some (13, true) }
abbrev nwhA16 : Oper := { dst := some 117, op := Go.Op.call { callee := Go.Callee.value (Go.Operand.func 30), args := #[Go.Operand.tmp 115, Go.Operand.tmp 116], argTypes := #[22, 35] }, type := 4, pos := "law.go:76", after := #[{ on := 14, ground := Go.Ground.data }, { on := 15, ground := Go.Ground.data }, { on := 13, ground := Go.Ground.chain }, { on := 13, ground := Go.Ground.guard }], guard := some (13, true) }
abbrev nwhA17 : Oper := { dst := some 118, op := Go.Op.pick (Go.Operand.tmp 114) (Go.Operand.tmp 117) (Go.Operand.const (Go.Value.bool false)), type := 4, pos := "law.go:76", after := #[{ on := 13, ground := Go.Ground.data }, { on := 16, ground := Go.Ground.data }, { on := 6, ground := Go.Ground.guard }], guard := some (6, true) }
abbrev nwhA18 : Oper := { dst := some 119, op := Go.Op.binOp Go.BinOp.eql 4 (Go.Operand.tmp 110) (Go.Operand.tmp 118) 4, type := 4, pos := "law.go:76", after := #[{ on := 9, ground := Go.Ground.data }, { on := 17, ground := Go.Ground.data }, { on := 6, ground := Go.Ground.guard }], guard := some (6, true) }
abbrev nwhA19 : Oper := { dst := some 120, op := Go.Op.pick (Go.Operand.tmp 107) (Go.Operand.tmp 119) (Go.Operand.const (Go.Value.bool false)), type := 4, pos := "law.go:76", after := #[{ on := 6, ground := Go.Ground.data }, { on := 18, ground := Go.Ground.data }], guard := none }
abbrev nwhA20 : Oper := { dst := some 6, op := Go.Op.assign (Go.Operand.tmp 120), type := 4, pos := "law.go:76", after := #[{ on := 19, ground := Go.Ground.data }, { on := 16, ground := Go.Ground.chain }, { on := 0, ground := Go.Ground.phase }, { on := 1, ground := Go.Ground.phase }, { on := 2, ground := Go.Ground.phase }, { on := 3, ground := Go.Ground.phase }, { on := 4, ground := Go.Ground.phase }, { on := 5, ground := Go.Ground.phase }, { on := 6, ground := Go.Ground.phase }, { on := 7, ground := Go.Ground.phase }, { on := 8, ground := Go.Ground.phase }, { on := 9, ground := Go.Ground.phase }, { on := 10, ground := Go.Ground.phase }, { on := 11, ground := Go.Ground.phase }, { on := 12, ground := Go.Ground.phase }, { on := 13, ground := Go.Ground.phase }, { on := 14, ground := Go.Ground.phase }, { on := 15, ground := Go.Ground.phase }, { on := 16, ground := Go.Ground.phase }, { on := 17, ground := Go.Ground.phase }, { on := 18, ground := Go.Ground.phase }, { on := 19, ground := Go.Ground.phase }], guard := none }
set_option maxHeartbeats 16000000 in
set_option maxRecDepth 100000 in
theorem nhas_main (vl : Value) (l : List LF) (vm : Value) (m : List LF) (pS pE : Int) (w : World) (rl : LeavesAt w vl l) (gl : ∀ f ∈ l, LeafG f) (rm : LeavesAt w vm m) (gm : ∀ f ∈ m, LeafG f) (hp1 : -9223372036854775808 ≤ pS) (hp2 : pS ≤ 9223372036854775807) (hp3 : -9223372036854775808 ≤ pE) (hp4 : pE ≤ 9223372036854775807) (T : Tabs w) (hf : few22 l = true) (hg : few22 m = true) :
    Calls Tryz.prog 6 #[vl, vm, .agg #[.int .i64 pS, .int .i64 pE]] w fun e w' => e = .returned (.bool true) ∧ Kp w w' := by
  have RFL := Lib.hid (fun w1 (kk : Kp w w1) => few22_any vl l w1 (rl.kp kk) gl)
  have RFM := Lib.hid (fun w1 (kk : Kp w w1) => few22_any vm m w1 (rm.kp kk) gm)
  rw [hf] at RFL
  rw [hg] at RFM
  obtain ⟨ok, sm, _, _, _⟩ := few22_told hf gl
  obtain ⟨okm, smm, _, kI, dD⟩ := few22_told hg gm
  have RN := Lib.hid (fun w1 (kk : Kp w w1) => nwN_any vl vm l m w1 (rl.kp kk) (rm.kp kk) ok okm (T.kp kk) sm (by omega) (by omega))
  have RHL := Lib.hid (fun w1 (kk : Kp w w1) => denHas_any vl l pS pE w1 (rl.kp kk) ok (T.kp kk) hp1 hp2 hp3 hp4)
  have RI := Lib.hid (fun w1 (kk : Kp w w1) => nwInside_any vm m pS pE w1 (rm.kp kk) okm (T.kp kk) hp1 hp2 hp3 hp4)
  have RHX := Lib.hid (fun v L w1 (h : LeavesAt w1 v L) (ho : LsOk L) (kk : Kp w w1) => denHas_any v L pS pE w1 h ho (T.kp kk) hp1 hp2 hp3 hp4)
  have TTW := Lib.hid T
  have PP := Lib.hid (show leftP l m pS pE ↔ (hasL l pS pE && inB m pS pE) = true by unfold leftP; rw [Bool.and_eq_true, inB_iff])
  obtain ⟨adl, cal, rfl⟩ := rl.slice
  obtain ⟨adm, cam, rfl⟩ := rm.slice
  obtain ⟨W0, hW⟩ : ∃ W0, W0 = w.alloc (.cells #[.int .i64 pS, .int .i64 pE] 35) := ⟨_, rfl⟩
  have K00 := Lib.hid (show Kp w W0 by rw [hW]; exact Kp.alloc _ _)
  have HB := Lib.hid (fun w1 (k : Kp W0 w1) => show w1.cell? ⟨w.heap.size, 0, none⟩ = some (.int .i64 pS) ∧ w1.cell? ⟨w.heap.size, 1, none⟩ = some (.int .i64 pE) from ⟨cell_up k (show W0.cell? ⟨w.heap.size, 0, none⟩ = some (.int .i64 pS) by rw [hW]; simp), cell_up k (show W0.cell? ⟨w.heap.size, 1, none⟩ = some (.int .i64 pE) by rw [hW]; simp)⟩)
  obtain ⟨c0, c1⟩ := HB.out W0 (Kp.refl _)
  have K0 := Lib.hid (Kp.refl W0)
  have HW := Lib.hid hW
  clear hW
  have AW := Lib.hid (fun w1 (kk : Kp W0 w1) => awake22 w1 (T.kp (K00.out.trans kk)))
  have F1 := Lib.hid (fun w1 (kk : Kp W0 w1) => RFL.out w1 (K00.out.trans kk))
  have F2 := Lib.hid (fun w1 (kk : Kp W0 w1) => RFM.out w1 (K00.out.trans kk))
  have N1 := Lib.hid (fun w1 (kk : Kp W0 w1) => RN.out w1 (K00.out.trans kk))
  have HL1 := Lib.hid (fun w1 (kk : Kp W0 w1) => RHL.out w1 (K00.out.trans kk))
  have IN1 := Lib.hid (fun w1 (kk : Kp W0 w1) => RI.out w1 (K00.out.trans kk))
  have HX1 := Lib.hid (fun v L w1 h ho (kk : Kp W0 w1) => RHX.out v L w1 h ho (K00.out.trans kk))
  have TT := Lib.hid (fun w1 (kk : Kp W0 w1) => TTW.out.kp (K00.out.trans kk))
  generalize hasL l pS pE = bl at *
  generalize inB m pS pE = bi at *
  clear rl rm gl gm T RN RHL RI RHX RFL RFM sm smm okm ok hf hg TTW
  go_enter Tryz.func6, Tryz.ntmps6
  go_wp2_with fail
  rw [← HW.out]
  refine (AW.out _ (by first | with_reducible exact K0.out | with_reducible exact K0.out.trans (Kp.alloc _ _) | with_reducible exact (K0.out.trans (Kp.alloc _ _)).trans (Kp.alloc _ _) | with_reducible exact ((K0.out.trans (Kp.alloc _ _)).trans (Kp.alloc _ _)).trans (Kp.alloc _ _) | with_reducible exact K0.out.trans (Kp.drew _) | with_reducible exact K0.out.trans (Kp.drewN _ _))).mono ?_
  rintro e w1 ⟨rfl, kk⟩
  have K1 := Lib.hid ((show Kp W0 _ from (by first | with_reducible exact K0.out | with_reducible exact K0.out.trans (Kp.alloc _ _) | with_reducible exact (K0.out.trans (Kp.alloc _ _)).trans (Kp.alloc _ _) | with_reducible exact ((K0.out.trans (Kp.alloc _ _)).trans (Kp.alloc _ _)).trans (Kp.alloc _ _) | with_reducible exact K0.out.trans (Kp.drew _) | with_reducible exact K0.out.trans (Kp.drewN _ _))).trans kk)
  clear kk
  clear c0 c1
  obtain ⟨c0, c1⟩ := HB.out w1 K1.out
  go_wp2_with fail
  refine (F1.out _ (by first | with_reducible exact K1.out | with_reducible exact K1.out.trans (Kp.alloc _ _) | with_reducible exact (K1.out.trans (Kp.alloc _ _)).trans (Kp.alloc _ _) | with_reducible exact ((K1.out.trans (Kp.alloc _ _)).trans (Kp.alloc _ _)).trans (Kp.alloc _ _) | with_reducible exact K1.out.trans (Kp.drew _) | with_reducible exact K1.out.trans (Kp.drewN _ _))).mono ?_
  rintro e w2 ⟨rfl, kk⟩
  have K2 := Lib.hid ((show Kp W0 _ from (by first | with_reducible exact K1.out | with_reducible exact K1.out.trans (Kp.alloc _ _) | with_reducible exact (K1.out.trans (Kp.alloc _ _)).trans (Kp.alloc _ _) | with_reducible exact ((K1.out.trans (Kp.alloc _ _)).trans (Kp.alloc _ _)).trans (Kp.alloc _ _) | with_reducible exact K1.out.trans (Kp.drew _) | with_reducible exact K1.out.trans (Kp.drewN _ _))).trans kk)
  clear kk
  clear c0 c1
  obtain ⟨c0, c1⟩ := HB.out w2 K2.out
  go_wp2_with fail
  refine (F2.out _ (by first | with_reducible exact K2.out | with_reducible exact K2.out.trans (Kp.alloc _ _) | with_reducible exact (K2.out.trans (Kp.alloc _ _)).trans (Kp.alloc _ _) | with_reducible exact ((K2.out.trans (Kp.alloc _ _)).trans (Kp.alloc _ _)).trans (Kp.alloc _ _) | with_reducible exact K2.out.trans (Kp.drew _) | with_reducible exact K2.out.trans (Kp.drewN _ _))).mono ?_
  rintro e w3 ⟨rfl, kk⟩
  have K3 := Lib.hid ((show Kp W0 _ from (by first | with_reducible exact K2.out | with_reducible exact K2.out.trans (Kp.alloc _ _) | with_reducible exact (K2.out.trans (Kp.alloc _ _)).trans (Kp.alloc _ _) | with_reducible exact ((K2.out.trans (Kp.alloc _ _)).trans (Kp.alloc _ _)).trans (Kp.alloc _ _) | with_reducible exact K2.out.trans (Kp.drew _) | with_reducible exact K2.out.trans (Kp.drewN _ _))).trans kk)
  clear kk
  clear c0 c1
  obtain ⟨c0, c1⟩ := HB.out w3 K3.out
  go_wp2_with fail
  refine (N1.out _ (by first | with_reducible exact K3.out | with_reducible exact K3.out.trans (Kp.alloc _ _) | with_reducible exact (K3.out.trans (Kp.alloc _ _)).trans (Kp.alloc _ _) | with_reducible exact ((K3.out.trans (Kp.alloc _ _)).trans (Kp.alloc _ _)).trans (Kp.alloc _ _) | with_reducible exact K3.out.trans (Kp.drew _) | with_reducible exact K3.out.trans (Kp.drewN _ _))).mono ?_
  rintro e w4 ⟨ad, L, c, n, rfl, ⟨lv, np⟩, kk⟩
  have K4 := Lib.hid ((show Kp W0 _ from (by first | with_reducible exact K3.out | with_reducible exact K3.out.trans (Kp.alloc _ _) | with_reducible exact (K3.out.trans (Kp.alloc _ _)).trans (Kp.alloc _ _) | with_reducible exact ((K3.out.trans (Kp.alloc _ _)).trans (Kp.alloc _ _)).trans (Kp.alloc _ _) | with_reducible exact K3.out.trans (Kp.drew _) | with_reducible exact K3.out.trans (Kp.drewN _ _))).trans kk)
  clear kk
  clear c0 c1
  obtain ⟨c0, c1⟩ := HB.out w4 K4.out
  obtain ⟨lok, l0, lg⟩ := nar_ok np
  have G4 := Lib.hid (Kp.refl w4)
  have LV := Lib.hid lv
  have LM := lv.len
  unfold maxLen at LM
  by_cases h0 : n = 0
  rotate_left
  · have e1 : (n != 0) = true := by simp [h0]
    obtain rfl := l0 h0
    have e0 : (([] : List LF).length) = 0 := rfl
    by_cases h8 : n = 8
    · have e2 : (n == 8) = true := by simp [h8]
      clear np lok l0 lg LV LM h8 h0
      go_wp2_with fail
      go_wp2
      go_ret
      exact ⟨rfl, K00.out.trans K4.out⟩
    · have e2 : (n == 8) = false := by simp [h8]
      obtain ⟨h9, _, hh, n9⟩ := nar_has np h8
      obtain rfl : n = 9 := by omega
      have nP := n9.1 rfl pS pE
      rw [PP.out] at nP
      clear np lok l0 lg LV LM h8 h0 h9 hh n9
      cases bl with
      | false =>
        go_wp2_with fail
        refine (HL1.out _ (by first | with_reducible exact K4.out | with_reducible exact K4.out.trans (Kp.alloc _ _) | with_reducible exact (K4.out.trans (Kp.alloc _ _)).trans (Kp.alloc _ _) | with_reducible exact ((K4.out.trans (Kp.alloc _ _)).trans (Kp.alloc _ _)).trans (Kp.alloc _ _) | with_reducible exact K4.out.trans (Kp.drew _) | with_reducible exact K4.out.trans (Kp.drewN _ _))).mono ?_
        rintro e w5 ⟨rfl, kk⟩
        have K5 := Lib.hid ((show Kp W0 _ from (by first | with_reducible exact K4.out | with_reducible exact K4.out.trans (Kp.alloc _ _) | with_reducible exact (K4.out.trans (Kp.alloc _ _)).trans (Kp.alloc _ _) | with_reducible exact ((K4.out.trans (Kp.alloc _ _)).trans (Kp.alloc _ _)).trans (Kp.alloc _ _) | with_reducible exact K4.out.trans (Kp.drew _) | with_reducible exact K4.out.trans (Kp.drewN _ _))).trans kk)
        clear kk
        clear c0 c1
        obtain ⟨c0, c1⟩ := HB.out w5 K5.out
        go_wp2
        go_ret
        exact ⟨rfl, K00.out.trans K5.out⟩
      | true =>
        have hb : bi = false := by cases bi <;> simp_all
        subst hb
        clear nP
        go_wp2_with fail
        refine (HL1.out _ (by first | with_reducible exact K4.out | with_reducible exact K4.out.trans (Kp.alloc _ _) | with_reducible exact (K4.out.trans (Kp.alloc _ _)).trans (Kp.alloc _ _) | with_reducible exact ((K4.out.trans (Kp.alloc _ _)).trans (Kp.alloc _ _)).trans (Kp.alloc _ _) | with_reducible exact K4.out.trans (Kp.drew _) | with_reducible exact K4.out.trans (Kp.drewN _ _))).mono ?_
        rintro e w5 ⟨rfl, kk⟩
        have K5 := Lib.hid ((show Kp W0 _ from (by first | with_reducible exact K4.out | with_reducible exact K4.out.trans (Kp.alloc _ _) | with_reducible exact (K4.out.trans (Kp.alloc _ _)).trans (Kp.alloc _ _) | with_reducible exact ((K4.out.trans (Kp.alloc _ _)).trans (Kp.alloc _ _)).trans (Kp.alloc _ _) | with_reducible exact K4.out.trans (Kp.drew _) | with_reducible exact K4.out.trans (Kp.drewN _ _))).trans kk)
        clear kk
        clear c0 c1
        obtain ⟨c0, c1⟩ := HB.out w5 K5.out
        go_wp2_with fail
        refine (IN1.out _ (by first | with_reducible exact K5.out | with_reducible exact K5.out.trans (Kp.alloc _ _) | with_reducible exact (K5.out.trans (Kp.alloc _ _)).trans (Kp.alloc _ _) | with_reducible exact ((K5.out.trans (Kp.alloc _ _)).trans (Kp.alloc _ _)).trans (Kp.alloc _ _) | with_reducible exact K5.out.trans (Kp.drew _) | with_reducible exact K5.out.trans (Kp.drewN _ _))).mono ?_
        rintro e w6 ⟨rfl, kk⟩
        have K6 := Lib.hid ((show Kp W0 _ from (by first | with_reducible exact K5.out | with_reducible exact K5.out.trans (Kp.alloc _ _) | with_reducible exact (K5.out.trans (Kp.alloc _ _)).trans (Kp.alloc _ _) | with_reducible exact ((K5.out.trans (Kp.alloc _ _)).trans (Kp.alloc _ _)).trans (Kp.alloc _ _) | with_reducible exact K5.out.trans (Kp.drew _) | with_reducible exact K5.out.trans (Kp.drewN _ _))).trans kk)
        clear kk
        clear c0 c1
        obtain ⟨c0, c1⟩ := HB.out w6 K6.out
        go_wp2
        go_ret
        exact ⟨rfl, K00.out.trans K6.out⟩
  subst h0
  obtain ⟨_, _, hh, _⟩ := nar_has np (by decide)
  have e1 : ((0 : Int) != 0) = false := rfl
  have LPOS : 0 < L.length := by
    rcases np with ⟨h, _⟩ | ⟨h, _⟩ | ⟨_, h, _⟩
    · omega
    · omega
    · exact List.length_pos_iff.2 h
  have HE := Lib.hid (boolN_iff (hh pS pE) PP.out.symm)
  have LO := Lib.hid lok
  have LG := Lib.hid lg
  have KW4 := Lib.hid (K4.out)
  clear np lok l0 lg hh lv PP
  have HV := LV
  have HL := LO
  go_wp2_with fail
  go_loopw [10] (fun i wr => ∃ k : Nat, k ≤ L.length ∧ i = .int .i64 k ∧ Hid (Kp w4 wr)) (fun i _ => L.length - (intOf i).toNat)
  case atStart => exact ⟨0, Nat.zero_le _, rfl, Lib.hid (Kp.refl _)⟩
  case round =>
    obtain ⟨k, hk, rfl, J⟩ := hrel
    have KJ := Lib.hid (K4.out.trans J.out)
    by_cases hlt : k < L.length
    · have q2 : decide ((k : Int) < (L.length : Int)) = true := decide_eq_true (by omega)
      have q3 : decide (k < L.length) = true := decide_eq_true hlt
      have g := LG.out _ (lat_mem hlt)
      rcases HV.out.kp J.out with ⟨_, _, _, e⟩ | ⟨b0, off, cap, ev, hc, hmx, hx⟩
      · rw [e] at hlt; simp at hlt
      cases ev
      obtain ⟨va, vb, d0, d1, d2, d3, ra, rb⟩ := hx k hlt
      have LOK := HL.out _ (lat_mem hlt)
      obtain ⟨f, hf⟩ : ∃ f, lat L k = f := ⟨_, rfl⟩
      rw [hf] at d0 d1 ra rb
      (try rw [hf] at LOK)
      obtain ⟨sp, u, a, b⟩ := f
      simp only at d0 d1 ra rb
      (try simp only at LOK)
      obtain ⟨aa, ca, rfl⟩ := ra.slice
      obtain ⟨ab, cb, rfl⟩ := rb.slice
      have HF := Lib.hid hf
      have z1 : (k : Int) < (L.length : Int) := by omega
      have z2 : (0 : Int) ≤ (k : Int) := by omega
      clear hx hc hmx hf
      rw [HF.out] at g
      have FO : LeafOk wr ⟨sp, u, a, b⟩ _ _ := ⟨ra, rb, LOK.1, LOK.2.1, LOK.2.2.1, LOK.2.2.2⟩
      have CS := Lib.hid (fun w1 (kk : Kp wr w1) => leafStarts_any ⟨sp, u, a, b⟩ _ _ w1 (FO.kp kk) (TT.out _ (KJ.out.trans kk)))
      have CE := Lib.hid (fun w1 (kk : Kp wr w1) => leafEnds_any ⟨sp, u, a, b⟩ _ _ w1 (FO.kp kk) (TT.out _ (KJ.out.trans kk)))
      have CN := Lib.hid (fun w1 (kk : Kp wr w1) => leafSane_any ⟨sp, u, a, b⟩ _ _ w1 (FO.kp kk).a (FO.kp kk).b FO.ia FO.ib (Nat.le_trans FO.na (by decide)) (Nat.le_trans FO.nb (by decide)) (TT.out _ (KJ.out.trans kk)).2)
      have CM := Lib.hid (fun w1 (kk : Kp wr w1) => leafEmpty_any ⟨sp, u, a, b⟩ _ _ w1 (FO.kp kk) (TT.out _ (KJ.out.trans kk)).2)
      rw [g.st] at CS
      rw [g.en] at CE
      rw [g.ok] at CN
      rw [g.full] at CM
      simp only [leafV] at CS CE CN CM
      have DD := Lib.hid (fun w' (kq : Kp wr w') => (show w'.cell? ⟨b0, off + k * 4, none⟩ = some (.bool sp) ∧ w'.cell? ⟨b0, off + k * 4 + 1, none⟩ = some (.int .i64 u) ∧ w'.cell? ⟨b0, off + k * 4 + 2, none⟩ = some (.slice aa a.length ca) ∧ w'.cell? ⟨b0, off + k * 4 + 3, none⟩ = some (.slice ab b.length cb) from ⟨cell_up kq d0, cell_up kq d1, cell_up kq d2, cell_up kq d3⟩))
      generalize startsR (famR ⟨sp, u, a, b⟩) = sF at *
      generalize endsR (famR ⟨sp, u, a, b⟩) = eF at *
      clear ra rb FO LOK HF g HV HL LV LO LG
      go_wp2_with fail
      refine (CS.out _ (Kp.refl _)).mono ?_
      rintro e w5 ⟨v5, rfl, o5, k5⟩
      obtain ⟨a5, l5, rfl⟩ := o5.slice
      clear o5 d0 d1 d2 d3
      obtain ⟨d0, d1, d2, d3⟩ := DD.out _ k5
      go_wp2_with fail
      refine (CE.out _ k5).mono ?_
      rintro e w6 ⟨v6, rfl, o6, k6⟩
      have k6' := k5.trans k6
      obtain ⟨a6, l6, rfl⟩ := o6.slice
      clear o6 d0 d1 d2 d3
      obtain ⟨d0, d1, d2, d3⟩ := DD.out _ k6'
      go_wp2_with fail
      refine (CN.out _ k6').mono ?_
      rintro e w7 ⟨rfl, k7⟩
      have k7' := k6'.trans k7
      clear d0 d1 d2 d3
      obtain ⟨d0, d1, d2, d3⟩ := DD.out _ k7'
      go_wp2_with fail
      refine (CM.out _ k7').mono ?_
      rintro e w8 ⟨rfl, k8⟩
      have K8 := Lib.hid (J.out.trans (k7'.trans k8))
      clear d0 d1 d2 d3 k5 k6 k7 k8 k6' k7'
      go_wp2
      go_roundw
      case rel => exact ⟨k + 1, by omega, by go_num, K8⟩
      case measure => simp [intOf]; omega
    · have q2 : decide ((k : Int) < (L.length : Int)) = false := decide_eq_false (by omega)
      have q3 : decide (k < L.length) = false := decide_eq_false (by omega)
      have p1 : decide ((L.length : Int) > 0) = true := decide_eq_true (by omega)
      have p2 : decide (0 < L.length) = true := decide_eq_true LPOS
      have p3 : decide ((0 : Int) < (L.length : Int)) = true := decide_eq_true (by omega)
      have HXr := Lib.hid (fun w' (kk : Kp wr w') => HX1.out _ L w' (LV.out.kp (J.out.trans kk)) LO.out (KJ.out.trans kk))
      have HLr := Lib.hid (fun w' (kk : Kp wr w') => HL1.out w' (KJ.out.trans kk))
      have INr := Lib.hid (fun w' (kk : Kp wr w') => IN1.out w' (KJ.out.trans kk))
      rw [HE.out] at HXr
      obtain ⟨wx, hwx⟩ : ∃ x, x = wr := ⟨_, rfl⟩
      subst hwx
      clear HX1 HL1 IN1 LV LO LG HV HL hlt
      cases bl with
      | false =>
        rw [Bool.false_and] at HXr
        have KS := Lib.hid (fun w' (kq : Kp wx w') => show w'.cell? ⟨w.heap.size, 0, none⟩ = some (.int .i64 pS) ∧ w'.cell? ⟨w.heap.size, 1, none⟩ = some (.int .i64 pE) ∧ Kp wx w' from ⟨(HB.out w' (KJ.out.trans kq)).1, (HB.out w' (KJ.out.trans kq)).2, kq⟩)
        go_wp2_with fail
        refine wp_region_held_drew (S := fun w' => w'.cell? ⟨w.heap.size, 0, none⟩ = some (.int .i64 pS) ∧ w'.cell? ⟨w.heap.size, 1, none⟩ = some (.int .i64 pE) ∧ Kp wx w') (by kernel_rfl) ?_ (fun hHeld0 => ?_)
        · (try dsimp only); exact KS.out _ (by first | assumption | exact Kp.drew _)
        refine tkW (v := ?_) 0 nwhA0 rfl (by kernel_rfl) (by kernel_rfl) (by kernel_rfl) (fun _ _ _ h => h) (by rfl) ?_ (by assumption) ?_
        rotate_left
        · intro w hSw; (try dsimp only at hSw); go_simp; (try with_reducible rfl)
        (try simp only [Act.put, nwhA0, List.setIfInBounds_toArray, List.set_cons_zero, List.set_cons_succ])
        refine tkW (v := ?_) 1 nwhA1 rfl (by kernel_rfl) (by kernel_rfl) (by kernel_rfl) (fun _ _ _ h => h) (by rfl) ?_ (by assumption) ?_
        rotate_left
        · intro w hSw; (try dsimp only at hSw); go_simp; (try with_reducible rfl)
        (try simp only [Act.put, nwhA1, List.setIfInBounds_toArray, List.set_cons_zero, List.set_cons_succ])
        refine tkW (v := ?_) 2 nwhA2 rfl (by kernel_rfl) (by kernel_rfl) (by kernel_rfl) (fun _ _ _ h => h) (by rfl) ?_ (by assumption) ?_
        rotate_left
        · intro w hSw; (try dsimp only at hSw); go_simp; (try with_reducible rfl)
        (try simp only [Act.put, nwhA2, List.setIfInBounds_toArray, List.set_cons_zero, List.set_cons_succ])
        refine tkW (v := ?_) 3 nwhA3 rfl (by kernel_rfl) (by kernel_rfl) (by kernel_rfl) (fun _ _ _ h => h) (by rfl) ?_ (by assumption) ?_
        rotate_left
        · intro w hSw; (try dsimp only at hSw); go_simp; (try with_reducible rfl)
        (try simp only [Act.put, nwhA3, List.setIfInBounds_toArray, List.set_cons_zero, List.set_cons_succ])
        refine tkW (v := ?_) 4 nwhA4 rfl (by kernel_rfl) (by kernel_rfl) (by kernel_rfl) (fun _ _ _ h => h) (by rfl) ?_ (by assumption) ?_
        rotate_left
        · intro w hSw; (try dsimp only at hSw); go_simp; (try with_reducible rfl)
        (try simp only [Act.put, nwhA4, List.setIfInBounds_toArray, List.set_cons_zero, List.set_cons_succ])
        refine tkW (v := ?_) 5 nwhA5 rfl (by kernel_rfl) (by kernel_rfl) (by kernel_rfl) (fun _ _ _ h => h) (by rfl) ?_ (by assumption) ?_
        rotate_left
        · intro w hSw; (try dsimp only at hSw); go_simp; (try with_reducible rfl)
        (try simp only [Act.put, nwhA5, List.setIfInBounds_toArray, List.set_cons_zero, List.set_cons_succ])
        refine tkW (v := ?_) 6 nwhA6 rfl (by kernel_rfl) (by kernel_rfl) (by kernel_rfl) (fun _ _ _ h => h) (by rfl) ?_ (by assumption) ?_
        rotate_left
        · intro w hSw; (try dsimp only at hSw); go_simp; (try with_reducible rfl)
        (try simp only [Act.put, nwhA6, List.setIfInBounds_toArray, List.set_cons_zero, List.set_cons_succ])
        refine tkW (v := ?_) 7 nwhA7 rfl (by kernel_rfl) (by kernel_rfl) (by kernel_rfl) (fun _ _ _ h => h) (by rfl) ?_ (by assumption) ?_
        rotate_left
        · intro w hSw; (try dsimp only at hSw); go_simp; (try with_reducible rfl)
        (try simp only [Act.put, nwhA7, List.setIfInBounds_toArray, List.set_cons_zero, List.set_cons_succ])
        refine tkW (v := ?_) 8 nwhA8 rfl (by kernel_rfl) (by kernel_rfl) (by kernel_rfl) (fun _ _ _ h => h) (by rfl) ?_ (by assumption) ?_
        rotate_left
        · intro w hSw; (try dsimp only at hSw); go_simp; (try with_reducible rfl)
        (try simp only [Act.put, nwhA8, List.setIfInBounds_toArray, List.set_cons_zero, List.set_cons_succ])
        refine tkW (v := ?_) 10 nwhA10 rfl (by kernel_rfl) (by kernel_rfl) (by kernel_rfl) (fun _ _ _ h => h) (by rfl) ?_ (by assumption) ?_
        rotate_left
        · intro w hSw; (try dsimp only at hSw); go_simp; (try with_reducible rfl)
        (try simp only [Act.put, nwhA10, List.setIfInBounds_toArray, List.set_cons_zero, List.set_cons_succ])
        refine tkW (v := ?_) 11 nwhA11 rfl (by kernel_rfl) (by kernel_rfl) (by kernel_rfl) (fun _ _ _ h => h) (by rfl) ?_ (by assumption) ?_
        rotate_left
        · intro w hSw; (try dsimp only at hSw); go_simp; (try with_reducible rfl)
        (try simp only [Act.put, nwhA11, List.setIfInBounds_toArray, List.set_cons_zero, List.set_cons_succ])
        refine tkE 9 nwhA9 rfl (by kernel_rfl) (fun K hK => ?_)
        go_simp
        (refine (HXr.out _ (by first | assumption | exact Kp.drew _)).mono ?_; rintro e w' ⟨rfl, k1⟩; have k2 := Kp.trans (show Kp wx _ from (by first | assumption | exact Kp.drew _)) k1; clear k1)
        (try go_wp2_with fail)
        refine hK.out _ _ ?_ (fun hHeld1 => ?_)
        · (try dsimp only); exact KS.out _ (by first | assumption | exact Kp.drew _)
        clear hK K hHeld0
        (try simp only [Act.put, nwhA9, List.setIfInBounds_toArray, List.set_cons_zero, List.set_cons_succ])
        refine tkE 12 nwhA12 rfl (by kernel_rfl) (fun K hK => ?_)
        go_simp
        (refine (HLr.out _ (by first | assumption | exact Kp.drew _)).mono ?_; rintro e w' ⟨rfl, k1⟩; have k2 := Kp.trans (show Kp wx _ from (by first | assumption | exact Kp.drew _)) k1; clear k1)
        (try go_wp2_with fail)
        refine hK.out _ _ ?_ (fun hHeld2 => ?_)
        · (try dsimp only); exact KS.out _ (by first | assumption | exact Kp.drew _)
        clear hK K hHeld1
        (try simp only [Act.put, nwhA12, List.setIfInBounds_toArray, List.set_cons_zero, List.set_cons_succ])
        refine tkW (v := ?_) 13 nwhA13 rfl (by kernel_rfl) (by kernel_rfl) (by kernel_rfl) (fun _ _ _ h => h) (by rfl) ?_ (by assumption) ?_
        rotate_left
        · intro w hSw; (try dsimp only at hSw); go_simp; (try with_reducible rfl)
        (try simp only [Act.put, nwhA13, List.setIfInBounds_toArray, List.set_cons_zero, List.set_cons_succ])
        refine tkU 14 nwhA14 rfl (by kernel_rfl) (by kernel_rfl) (by kernel_rfl) (fun _ _ _ h => h) (by rfl) (by assumption) ?_
        (try simp only [Act.put, nwhA14, List.setIfInBounds_toArray, List.set_cons_zero, List.set_cons_succ])
        refine tkU 15 nwhA15 rfl (by kernel_rfl) (by kernel_rfl) (by kernel_rfl) (fun _ _ _ h => h) (by rfl) (by assumption) ?_
        (try simp only [Act.put, nwhA15, List.setIfInBounds_toArray, List.set_cons_zero, List.set_cons_succ])
        refine tkU 16 nwhA16 rfl (by kernel_rfl) (by kernel_rfl) (by kernel_rfl) (fun _ _ _ h => h) (by rfl) (by assumption) ?_
        (try simp only [Act.put, nwhA16, List.setIfInBounds_toArray, List.set_cons_zero, List.set_cons_succ])
        refine tkW (v := ?_) 17 nwhA17 rfl (by kernel_rfl) (by kernel_rfl) (by kernel_rfl) (fun _ _ _ h => h) (by rfl) ?_ (by assumption) ?_
        rotate_left
        · intro w hSw; (try dsimp only at hSw); go_simp; (try with_reducible rfl)
        (try simp only [Act.put, nwhA17, List.setIfInBounds_toArray, List.set_cons_zero, List.set_cons_succ])
        refine tkW (v := ?_) 18 nwhA18 rfl (by kernel_rfl) (by kernel_rfl) (by kernel_rfl) (fun _ _ _ h => h) (by rfl) ?_ (by assumption) ?_
        rotate_left
        · intro w hSw; (try dsimp only at hSw); go_simp; (try with_reducible rfl)
        (try simp only [Act.put, nwhA18, List.setIfInBounds_toArray, List.set_cons_zero, List.set_cons_succ])
        refine tkW (v := ?_) 19 nwhA19 rfl (by kernel_rfl) (by kernel_rfl) (by kernel_rfl) (fun _ _ _ h => h) (by rfl) ?_ (by assumption) ?_
        rotate_left
        · intro w hSw; (try dsimp only at hSw); go_simp; (try with_reducible rfl)
        (try simp only [Act.put, nwhA19, List.setIfInBounds_toArray, List.set_cons_zero, List.set_cons_succ])
        refine tkW (v := ?_) 20 nwhA20 rfl (by kernel_rfl) (by kernel_rfl) (by kernel_rfl) (fun _ _ _ h => h) (by rfl) ?_ (by assumption) ?_
        rotate_left
        · intro w hSw; (try dsimp only at hSw); go_simp; (try with_reducible rfl)
        (try simp only [Act.put, nwhA20, List.setIfInBounds_toArray, List.set_cons_zero, List.set_cons_succ])
        refine wpAnyH_done (by kernel_rfl) ?_ _
        go_wp2
        go_ret
        exact ⟨rfl, K00.out.trans (KJ.out.trans (by first | assumption | exact Kp.drew _))⟩
      | true =>
        have eb : (bi == bi) = true := by simp
        rw [Bool.true_and] at HXr
        have KS := Lib.hid (fun w' (kq : Kp wx w') => show w'.cell? ⟨w.heap.size, 0, none⟩ = some (.int .i64 pS) ∧ w'.cell? ⟨w.heap.size, 1, none⟩ = some (.int .i64 pE) ∧ Kp wx w' from ⟨(HB.out w' (KJ.out.trans kq)).1, (HB.out w' (KJ.out.trans kq)).2, kq⟩)
        go_wp2_with fail
        refine wp_region_held_drew (S := fun w' => w'.cell? ⟨w.heap.size, 0, none⟩ = some (.int .i64 pS) ∧ w'.cell? ⟨w.heap.size, 1, none⟩ = some (.int .i64 pE) ∧ Kp wx w') (by kernel_rfl) ?_ (fun hHeld0 => ?_)
        · (try dsimp only); exact KS.out _ (by first | assumption | exact Kp.drew _)
        refine tkW (v := ?_) 0 nwhA0 rfl (by kernel_rfl) (by kernel_rfl) (by kernel_rfl) (fun _ _ _ h => h) (by rfl) ?_ (by assumption) ?_
        rotate_left
        · intro w hSw; (try dsimp only at hSw); go_simp; (try with_reducible rfl)
        (try simp only [Act.put, nwhA0, List.setIfInBounds_toArray, List.set_cons_zero, List.set_cons_succ])
        refine tkW (v := ?_) 1 nwhA1 rfl (by kernel_rfl) (by kernel_rfl) (by kernel_rfl) (fun _ _ _ h => h) (by rfl) ?_ (by assumption) ?_
        rotate_left
        · intro w hSw; (try dsimp only at hSw); go_simp; (try with_reducible rfl)
        (try simp only [Act.put, nwhA1, List.setIfInBounds_toArray, List.set_cons_zero, List.set_cons_succ])
        refine tkW (v := ?_) 2 nwhA2 rfl (by kernel_rfl) (by kernel_rfl) (by kernel_rfl) (fun _ _ _ h => h) (by rfl) ?_ (by assumption) ?_
        rotate_left
        · intro w hSw; (try dsimp only at hSw); go_simp; (try with_reducible rfl)
        (try simp only [Act.put, nwhA2, List.setIfInBounds_toArray, List.set_cons_zero, List.set_cons_succ])
        refine tkW (v := ?_) 3 nwhA3 rfl (by kernel_rfl) (by kernel_rfl) (by kernel_rfl) (fun _ _ _ h => h) (by rfl) ?_ (by assumption) ?_
        rotate_left
        · intro w hSw; (try dsimp only at hSw); go_simp; (try with_reducible rfl)
        (try simp only [Act.put, nwhA3, List.setIfInBounds_toArray, List.set_cons_zero, List.set_cons_succ])
        refine tkW (v := ?_) 4 nwhA4 rfl (by kernel_rfl) (by kernel_rfl) (by kernel_rfl) (fun _ _ _ h => h) (by rfl) ?_ (by assumption) ?_
        rotate_left
        · intro w hSw; (try dsimp only at hSw); go_simp; (try with_reducible rfl)
        (try simp only [Act.put, nwhA4, List.setIfInBounds_toArray, List.set_cons_zero, List.set_cons_succ])
        refine tkW (v := ?_) 5 nwhA5 rfl (by kernel_rfl) (by kernel_rfl) (by kernel_rfl) (fun _ _ _ h => h) (by rfl) ?_ (by assumption) ?_
        rotate_left
        · intro w hSw; (try dsimp only at hSw); go_simp; (try with_reducible rfl)
        (try simp only [Act.put, nwhA5, List.setIfInBounds_toArray, List.set_cons_zero, List.set_cons_succ])
        refine tkW (v := ?_) 6 nwhA6 rfl (by kernel_rfl) (by kernel_rfl) (by kernel_rfl) (fun _ _ _ h => h) (by rfl) ?_ (by assumption) ?_
        rotate_left
        · intro w hSw; (try dsimp only at hSw); go_simp; (try with_reducible rfl)
        (try simp only [Act.put, nwhA6, List.setIfInBounds_toArray, List.set_cons_zero, List.set_cons_succ])
        refine tkW (v := ?_) 7 nwhA7 rfl (by kernel_rfl) (by kernel_rfl) (by kernel_rfl) (fun _ _ _ h => h) (by rfl) ?_ (by assumption) ?_
        rotate_left
        · intro w hSw; (try dsimp only at hSw); go_simp; (try with_reducible rfl)
        (try simp only [Act.put, nwhA7, List.setIfInBounds_toArray, List.set_cons_zero, List.set_cons_succ])
        refine tkW (v := ?_) 8 nwhA8 rfl (by kernel_rfl) (by kernel_rfl) (by kernel_rfl) (fun _ _ _ h => h) (by rfl) ?_ (by assumption) ?_
        rotate_left
        · intro w hSw; (try dsimp only at hSw); go_simp; (try with_reducible rfl)
        (try simp only [Act.put, nwhA8, List.setIfInBounds_toArray, List.set_cons_zero, List.set_cons_succ])
        refine tkW (v := ?_) 10 nwhA10 rfl (by kernel_rfl) (by kernel_rfl) (by kernel_rfl) (fun _ _ _ h => h) (by rfl) ?_ (by assumption) ?_
        rotate_left
        · intro w hSw; (try dsimp only at hSw); go_simp; (try with_reducible rfl)
        (try simp only [Act.put, nwhA10, List.setIfInBounds_toArray, List.set_cons_zero, List.set_cons_succ])
        refine tkW (v := ?_) 11 nwhA11 rfl (by kernel_rfl) (by kernel_rfl) (by kernel_rfl) (fun _ _ _ h => h) (by rfl) ?_ (by assumption) ?_
        rotate_left
        · intro w hSw; (try dsimp only at hSw); go_simp; (try with_reducible rfl)
        (try simp only [Act.put, nwhA11, List.setIfInBounds_toArray, List.set_cons_zero, List.set_cons_succ])
        refine tkE 9 nwhA9 rfl (by kernel_rfl) (fun K hK => ?_)
        go_simp
        (refine (HXr.out _ (by first | assumption | exact Kp.drew _)).mono ?_; rintro e w' ⟨rfl, k1⟩; have k2 := Kp.trans (show Kp wx _ from (by first | assumption | exact Kp.drew _)) k1; clear k1)
        (try go_wp2_with fail)
        refine hK.out _ _ ?_ (fun hHeld1 => ?_)
        · (try dsimp only); exact KS.out _ (by first | assumption | exact Kp.drew _)
        clear hK K hHeld0
        (try simp only [Act.put, nwhA9, List.setIfInBounds_toArray, List.set_cons_zero, List.set_cons_succ])
        refine tkE 12 nwhA12 rfl (by kernel_rfl) (fun K hK => ?_)
        go_simp
        (refine (HLr.out _ (by first | assumption | exact Kp.drew _)).mono ?_; rintro e w' ⟨rfl, k1⟩; have k2 := Kp.trans (show Kp wx _ from (by first | assumption | exact Kp.drew _)) k1; clear k1)
        (try go_wp2_with fail)
        refine hK.out _ _ ?_ (fun hHeld2 => ?_)
        · (try dsimp only); exact KS.out _ (by first | assumption | exact Kp.drew _)
        clear hK K hHeld1
        (try simp only [Act.put, nwhA12, List.setIfInBounds_toArray, List.set_cons_zero, List.set_cons_succ])
        refine tkW (v := ?_) 13 nwhA13 rfl (by kernel_rfl) (by kernel_rfl) (by kernel_rfl) (fun _ _ _ h => h) (by rfl) ?_ (by assumption) ?_
        rotate_left
        · intro w hSw; (try dsimp only at hSw); go_simp; (try with_reducible rfl)
        (try simp only [Act.put, nwhA13, List.setIfInBounds_toArray, List.set_cons_zero, List.set_cons_succ])
        refine tkW (v := ?_) 14 nwhA14 rfl (by kernel_rfl) (by kernel_rfl) (by kernel_rfl) (fun _ _ _ h => h) (by rfl) ?_ (by assumption) ?_
        rotate_left
        · intro w hSw; (try dsimp only at hSw); go_simp; (try with_reducible rfl)
        (try simp only [Act.put, nwhA14, List.setIfInBounds_toArray, List.set_cons_zero, List.set_cons_succ])
        refine tkW (v := ?_) 15 nwhA15 rfl (by kernel_rfl) (by kernel_rfl) (by kernel_rfl) (fun _ _ _ h => h) (by rfl) ?_ (by assumption) ?_
        rotate_left
        · intro w hSw; (try dsimp only at hSw); go_simp; (try with_reducible rfl)
        (try simp only [Act.put, nwhA15, List.setIfInBounds_toArray, List.set_cons_zero, List.set_cons_succ])
        refine tkE 16 nwhA16 rfl (by kernel_rfl) (fun K hK => ?_)
        go_simp
        (refine (INr.out _ (by first | assumption | exact Kp.drew _)).mono ?_; rintro e w' ⟨rfl, k1⟩; have k2 := Kp.trans (show Kp wx _ from (by first | assumption | exact Kp.drew _)) k1; clear k1)
        (try go_wp2_with fail)
        refine hK.out _ _ ?_ (fun hHeld3 => ?_)
        · (try dsimp only); exact KS.out _ (by first | assumption | exact Kp.drew _)
        clear hK K hHeld2
        (try simp only [Act.put, nwhA16, List.setIfInBounds_toArray, List.set_cons_zero, List.set_cons_succ])
        refine tkW (v := ?_) 17 nwhA17 rfl (by kernel_rfl) (by kernel_rfl) (by kernel_rfl) (fun _ _ _ h => h) (by rfl) ?_ (by assumption) ?_
        rotate_left
        · intro w hSw; (try dsimp only at hSw); go_simp; (try with_reducible rfl)
        (try simp only [Act.put, nwhA17, List.setIfInBounds_toArray, List.set_cons_zero, List.set_cons_succ])
        refine tkW (v := ?_) 18 nwhA18 rfl (by kernel_rfl) (by kernel_rfl) (by kernel_rfl) (fun _ _ _ h => h) (by rfl) ?_ (by assumption) ?_
        rotate_left
        · intro w hSw; (try dsimp only at hSw); go_simp; (try with_reducible rfl)
        (try simp only [Act.put, nwhA18, List.setIfInBounds_toArray, List.set_cons_zero, List.set_cons_succ])
        refine tkW (v := ?_) 19 nwhA19 rfl (by kernel_rfl) (by kernel_rfl) (by kernel_rfl) (fun _ _ _ h => h) (by rfl) ?_ (by assumption) ?_
        rotate_left
        · intro w hSw; (try dsimp only at hSw); go_simp; (try with_reducible rfl)
        (try simp only [Act.put, nwhA19, List.setIfInBounds_toArray, List.set_cons_zero, List.set_cons_succ])
        refine tkW (v := ?_) 20 nwhA20 rfl (by kernel_rfl) (by kernel_rfl) (by kernel_rfl) (fun _ _ _ h => h) (by rfl) ?_ (by assumption) ?_
        rotate_left
        · intro w hSw; (try dsimp only at hSw); go_simp; (try with_reducible rfl)
        (try simp only [Act.put, nwhA20, List.setIfInBounds_toArray, List.set_cons_zero, List.set_cons_succ])
        refine wpAnyH_done (by kernel_rfl) ?_ _
        go_wp2
        go_ret
        exact ⟨rfl, K00.out.trans (KJ.out.trans (by first | assumption | exact Kp.drew _))⟩
set_option maxHeartbeats 16000000 in
set_option maxRecDepth 100000 in
theorem narrowHas_walk (vl : Value) (l : List LF) (vm : Value) (m : List LF) (pS pE : Int) (w : World) (rl : LeavesAt w vl l) (gl : ∀ f ∈ l, LeafG f) (rm : LeavesAt w vm m) (gm : ∀ f ∈ m, LeafG f) (hp1 : -9223372036854775808 ≤ pS) (hp2 : pS ≤ 9223372036854775807) (hp3 : -9223372036854775808 ≤ pE) (hp4 : pE ≤ 9223372036854775807) (T : Tabs w) :
    Calls Tryz.prog 6 #[vl, vm, .agg #[.int .i64 pS, .int .i64 pE]] w fun e w' => e = .returned (.bool true) ∧ Kp w w' := by
  rcases Bool.eq_false_or_eq_true (few22 l) with hf | hf
  · rcases Bool.eq_false_or_eq_true (few22 m) with hg | hg
    · exact nhas_main vl l vm m pS pE w rl gl rm gm hp1 hp2 hp3 hp4 T hf hg
    · exact nhas_f2 vl l vm m pS pE w rl gl rm gm hp1 hp2 hp3 hp4 T hf hg
  · exact nhas_f1 vl l vm m pS pE w rl gl rm gm hp1 hp2 hp3 hp4 T hf
end Go.Proofs.YtjdnejglapnbbaaGreatDoor
