/-
  Joined: L15C, LDenotePoint.
-/
import Derived.Test.YtmklpimaemogcaaGreatDoorGDn
import Derived.Test.YtmklpimaemogcaaGreatDoorCards
import Derived.Test.YtmklpimaemogcaaGreatDoorTie
import Derived.WalkKit
import Derived.ProofKit
import Derived.OpenShut
import Derived.ShutString
import Derived.ChangeOld
import Derived.Below
import Derived.Test.YtmklpimaemogcaaGreatDoorGTr
import Derived.Deep.DeepHandedRow
import Derived.Lib.LaidTab
import Derived.Lib.SmallJoins
namespace Go.Proofs.YtmklpimaemogcaaGreatDoor
open Go.RowKit
set_option linter.unusedVariables false
set_option linter.unusedSimpArgs false
theorem sane_pt (p : PT) (a t : Bool) : saneN saneP (.mk 0 p a t []) = saneP p := by
  unfold saneN
  have e : rightN saneP (.mk 0 p a t []) = saneP p := by simp [rightN, endN, ND.k, ND.p, ND.l]
  rw [e]
  rw [show decide (cntN (.mk 0 p a t []) ≤ 64) = true from rfl, show decide (depN (.mk 0 p a t []) ≤ 8) = true from rfl, Bool.true_and, Bool.true_and]
theorem ofE_pt {p : PT} {a t : Bool} (hs : saneP p = true) : ofE (.mk 0 p a t []) = unE (.mk 0 p a t []) := by
  unfold ofE
  rw [if_pos (by rw [sane_pt]; exact hs)]
  simp only [dnE]
  rw [if_neg (by decide), if_neg (by decide)]
theorem ofS_pt {p : PT} {a t : Bool} (hs : saneP p = true) (h : unE (.mk 0 p a t []) = 0) : ofS (.mk 0 p a t []) = [⟨false, p.k, unS (.mk 0 p a t []), []⟩] := by
  unfold ofS
  rw [if_pos ⟨by rw [sane_pt]; exact hs, by simp only [dnE]; rw [if_neg (by decide), if_neg (by decide)]; exact h⟩]
  simp only [dnS]
  rw [if_neg (by decide), if_neg (by decide)]
theorem ofS_ptw {p : PT} {a t : Bool} (h : ¬ unE (.mk 0 p a t []) = 0) : ofS (.mk 0 p a t []) = [] := by
  unfold ofS
  rw [if_neg (fun g => h (by have := g.2; simp only [dnE] at this; rw [if_neg (by decide), if_neg (by decide)] at this; exact this))]
theorem lf_one {k : Int} {U : List R} (u : UnOk k U) : LsOk [⟨false, k, U, []⟩] := by
  intro f hf
  rw [List.mem_singleton.1 hf]
  exact And.intro (sane_i64 u.sane) (And.intro dw_nil (And.intro (by have := u.len; simp only; omega) (by simp)))
abbrev ptA0 : Oper := { dst := some 68, op := Go.Op.move (Go.Operand.tmp 9), type := 4, pos := "law.go:117", after := #[], guard := none }
abbrev ptA1 : Oper := { dst := some 69, op := Go.Op.move (Go.Operand.tmp 68), type := 4, pos := "law.go:117", after := #[{ on := 0, ground := Go.Ground.data }], guard := none }
abbrev ptA2 : Oper := { dst := some 70, op := Go.Op.move (Go.Operand.tmp 18), type := 30, pos := "law.go:117", after := #[{ on := 1, ground := Go.Ground.guard }], guard := some (1, true) }
abbrev ptA3 : Oper := { dst := some 71, op := Go.Op.move (Go.Operand.tmp 12), type := 30, pos := "law.go:117", after := #[{ on := 1, ground := Go.Ground.guard }], guard := some (1, true) }
abbrev ptA4 : Oper := { dst := some 72, op := Go.Op.binOp Go.BinOp.eql 30 (Go.Operand.tmp 70) (Go.Operand.tmp 71) 30, type := 4, pos := "law.go:117", after := #[{ on := 2, ground := Go.Ground.data }, { on := 3, ground := Go.Ground.data }, { on := 1, ground := Go.Ground.guard }], guard := some (1, true) }
abbrev ptA5 : Oper := { dst := some 73, op := Go.Op.pick (Go.Operand.tmp 69) (Go.Operand.tmp 72) (Go.Operand.const (Go.Value.bool false)), type := 4, pos := "law.go:117", after := #[{ on := 1, ground := Go.Ground.data }, { on := 4, ground := Go.Ground.data }], guard := none }
abbrev ptA6 : Oper := { dst := some 74, op := Go.Op.move (Go.Operand.tmp 73), type := 4, pos := "law.go:117", after := #[{ on := 5, ground := Go.Ground.data }, { on := 1, ground := Go.Ground.chain }], guard := none }
abbrev ptA7 : Oper := { dst := some 75, op := Go.Op.move (Go.Operand.tmp 12), type := 30, pos := "law.go:117", after := #[{ on := 6, ground := Go.Ground.guard }], guard := some (6, true) }
abbrev ptA8 : Oper := { dst := some 76, op := Go.Op.binOp Go.BinOp.neq 30 (Go.Operand.tmp 75) (Go.Operand.const (Go.Value.int Go.IntKind.i64 0)) 30, type := 4, pos := "law.go:117", after := #[{ on := 7, ground := Go.Ground.data }, { on := 6, ground := Go.Ground.guard }], guard := some (6, true) }
abbrev ptA9 : Oper := { dst := some 77, op := Go.Op.move (Go.Operand.tmp 76), type := 4, pos := "law.go:117", after := #[{ on := 8, ground := Go.Ground.data }, { on := 6, ground := Go.Ground.chain }, { on := 6, ground := Go.Ground.guard }], guard := some (6, true) }
abbrev ptA10 : Oper := { dst := some 78, op := Go.Op.move (Go.Operand.tmp 11), type := 29, pos := "law.go:117", after := #[{ on := 9, ground := Go.Ground.guard }], guard := some (9, false) }
abbrev ptA11 : Oper := { dst := some 79, op := Go.Op.call { callee := Go.Callee.builtin Go.Builtin.len, args := #[Go.Operand.tmp 78], argTypes := #[29] }, type := 3, pos := "law.go:117", after := #[{ on := 10, ground := Go.Ground.data }, { on := 9, ground := Go.Ground.guard }], guard := some (9, false) }
abbrev ptA12 : Oper := { dst := some 80, op := Go.Op.binOp Go.BinOp.eql 3 (Go.Operand.tmp 79) (Go.Operand.const (Go.Value.int Go.IntKind.i64 1)) 3, type := 4, pos := "law.go:117", after := #[{ on := 11, ground := Go.Ground.data }, { on := 9, ground := Go.Ground.guard }], guard := some (9, false) }
abbrev ptA13 : Oper := { dst := some 81, op := Go.Op.move (Go.Operand.tmp 80), type := 4, pos := "law.go:117", after := #[{ on := 12, ground := Go.Ground.data }, { on := 9, ground := Go.Ground.chain }, { on := 9, ground := Go.Ground.guard }], guard := some (9, false) }
abbrev ptA14 : Oper := { dst := some 82, op := Go.Op.move (Go.Operand.tmp 11), type := 29, pos := "law.go:117", after := #[{ on := 13, ground := Go.Ground.guard }], guard := some (13, true) }
abbrev ptA15 : Oper := { dst := some 83, op := Go.Op.load 42 (Go.Operand.tmp 7), type := 42, pos := "law.go:117", after := #[{ on := 13, ground := Go.Ground.guard }], guard := some (13, true) }
abbrev ptA16 : Oper := { dst := some 84, op := Go.Op.call { callee := Go.Callee.value (Go.Operand.func 19), args := #[Go.Operand.tmp 82, Go.Operand.tmp 83], argTypes := #[29, 42] }, type := 4, pos := "law.go:117", after := #[{ on := 14, ground := Go.Ground.data }, { on := 15, ground := Go.Ground.data }, { on := 13, ground := Go.Ground.chain }, { on := 13, ground := Go.Ground.guard }], guard := some (13, true) }
abbrev ptA17 : Oper := { dst := some 85, op := Go.Op.fieldAddr 23 (Go.Operand.tmp 4) 0, type := 0, pos := "law.go:117", after := #[{ on := 13, ground := Go.Ground.guard }], guard := some (13, true) }
abbrev ptA18 : Oper := { dst := some 86, op := Go.Op.load 3 (Go.Operand.tmp 85), type := 3, pos := "law.go:117", after := #[{ on := 17, ground := Go.Ground.data }, { on := 13, ground := Go.Ground.guard }], guard := some (13, true) }
abbrev ptA19 : Oper := { dst := some 87, op := Go.Op.move (Go.Operand.tmp 13), type := 34, pos := "law.go:117", after := #[{ on := 13, ground := Go.Ground.guard }], guard := some (13, true) }
abbrev ptA20 : Oper := { dst := some 88, op := Go.Op.build 36 #[(1, Go.Operand.tmp 86), (2, Go.Operand.tmp 87)], type := 36, pos := "law.go:117", after := #[{ on := 18, ground := Go.Ground.data }, { on := 19, ground := Go.Ground.data }, { on := 13, ground := Go.Ground.guard }], guard := some (13, true) }
abbrev ptA21 : Oper := { dst := some 89, op := Go.Op.load 42 (Go.Operand.tmp 7), type := 42, pos := "law.go:117", after := #[{ on := 13, ground := Go.Ground.guard }], guard := some (13, true) }
abbrev ptA22 : Oper := { dst := some 90, op := Go.Op.call { callee := Go.Callee.value (Go.Operand.func 20), args := #[Go.Operand.tmp 88, Go.Operand.tmp 89], argTypes := #[36, 42] }, type := 4, pos := "law.go:117", after := #[{ on := 20, ground := Go.Ground.data }, { on := 21, ground := Go.Ground.data }, { on := 16, ground := Go.Ground.chain }, { on := 13, ground := Go.Ground.guard }], guard := some (13, true) }
abbrev ptA23 : Oper := { dst := some 91, op := Go.Op.binOp Go.BinOp.eql 4 (Go.Operand.tmp 84) (Go.Operand.tmp 90) 4, type := 4, pos := "law.go:117", after := #[{ on := 16, ground := Go.Ground.data }, { on := 22, ground := Go.Ground.data }, { on := 13, ground := Go.Ground.guard }], guard := some (13, true) }
abbrev ptA24 : Oper := { dst := some 92, op := Go.Op.pick (Go.Operand.tmp 81) (Go.Operand.tmp 91) (Go.Operand.const (Go.Value.bool false)), type := 4, pos := "law.go:117", after := #[{ on := 13, ground := Go.Ground.data }, { on := 23, ground := Go.Ground.data }, { on := 9, ground := Go.Ground.guard }], guard := some (9, false) }
abbrev ptA25 : Oper := { dst := some 93, op := Go.Op.pick (Go.Operand.tmp 77) (Go.Operand.const (Go.Value.bool true)) (Go.Operand.tmp 92), type := 4, pos := "law.go:117", after := #[{ on := 9, ground := Go.Ground.data }, { on := 24, ground := Go.Ground.data }, { on := 6, ground := Go.Ground.guard }], guard := some (6, true) }
abbrev ptA26 : Oper := { dst := some 94, op := Go.Op.pick (Go.Operand.tmp 74) (Go.Operand.tmp 93) (Go.Operand.const (Go.Value.bool false)), type := 4, pos := "law.go:117", after := #[{ on := 6, ground := Go.Ground.data }, { on := 25, ground := Go.Ground.data }], guard := none }
abbrev ptA27 : Oper := { dst := some 8, op := Go.Op.assign (Go.Operand.tmp 94), type := 4, pos := "law.go:117", after := #[{ on := 26, ground := Go.Ground.data }, { on := 22, ground := Go.Ground.chain }, { on := 0, ground := Go.Ground.phase }, { on := 1, ground := Go.Ground.phase }, { on := 2, ground := Go.Ground.phase }, { on := 3, ground := Go.Ground.phase }, { on := 4, ground := Go.Ground.phase }, { on := 5, ground := Go.Ground.phase }, { on := 6, ground := Go.Ground.phase }, { on := 7, ground := Go.Ground.phase }, { on := 8, ground := Go.Ground.phase }, { on := 9, ground := Go.Ground.phase }, { on := 10, ground := Go.Ground.phase }, { on := 11, ground := Go.Ground.phase }, { on := 12, ground := Go.Ground.phase }, { on := 13, ground := Go.Ground.phase }, { on := 14, ground := Go.Ground.phase }, { on := 15, ground := Go.Ground.phase }, { on := 16, ground := Go.Ground.phase }, { on := 17, ground := Go.Ground.phase }, { on := 18, ground := Go.Ground.phase }, { on := 19, ground := Go.Ground.phase }, { on := 20, ground := Go.Ground.phase }, { on := 21, ground := Go.Ground.phase }, { on := 22, ground := Go.Ground.phase }, { on := 23, ground := Go.Ground.phase }, { on := 24, ground := Go.Ground.phase }, { on := 25, ground := Go.Ground.phase }, { on := 26, ground := Go.Ground.phase }], guard := none }
set_option maxHeartbeats 16000000 in
set_option maxRecDepth 100000 in
theorem dpoint_no_f (p : PT) (ask : Bool)  (qS qE : Int) (w : World) (hp1 : -9223372036854775808 ≤ p.k) (hp2 : p.k ≤ 9223372036854775807) (hq1 : -9223372036854775808 ≤ qS) (hq2 : qS ≤ 9223372036854775807) (hq3 : -9223372036854775808 ≤ qE) (hq4 : qE ≤ 9223372036854775807) (T : Tabs8 w) (hs : saneP p = false) :
    Calls Tryz.prog 5 #[ptV p, .bool ask, .bool false, .agg #[.int .i64 qS, .int .i64 qE]] w fun e w' => e = .returned (.bool true) ∧ Kp w w' := by
  have AW := Lib.hid (fun w1 (kk : Kp w w1) => awake15 w1 (T.kp kk))
  have TO := Lib.hid (fun w1 => of_node_any p ask false w1)
  have SM := Lib.hid (fun w1 => small_any (.mk 0 p ask false [] : ND) (.slice none 0 0) w1 (.none none 0))
  have FW := Lib.hid (fun w1 => rfewG_any (.mk 0 p ask false [] : ND) (.slice none 0 0) w1 (.none none 0))
  have SN := Lib.hid (fun w1 (kk : Kp w w1) => tSaneG_any (.mk 0 p ask false [] : ND) (.slice none 0 0) w1 (.none none 0) (T.kp kk).2.1)
  rw [sane_pt] at SN
  generalize fewG (.mk 0 p ask false [] : ND) = fb at *
  rw [hs] at SN
  clear hs T
  obtain ⟨kp, yp, mp, dp⟩ := p
  unfold ptV at *
  simp only at *
  unfold ndV at *
  simp only [ND.k, ND.p, ND.a, ND.t, ND.l] at *
  obtain ⟨W0, hW⟩ : ∃ W0, W0 = (w.alloc (.cells #[.int .i64 kp, .string yp, .string mp, .string dp] 23)).alloc (.cells #[.int .i64 qS, .int .i64 qE] 42) := ⟨_, rfl⟩
  have K00 := Lib.hid (show Kp w W0 by rw [hW]; exact (Kp.alloc _ _).trans (Kp.alloc _ _))
  have HB := Lib.hid (fun w1 (k : Kp W0 w1) => show w1.cell? ⟨w.heap.size, 0, none⟩ = some (.int .i64 kp) ∧ w1.cell? ⟨w.heap.size, 1, none⟩ = some (.string yp) ∧ w1.cell? ⟨w.heap.size, 2, none⟩ = some (.string mp) ∧ w1.cell? ⟨w.heap.size, 3, none⟩ = some (.string dp) ∧ w1.cell? ⟨w.heap.size + 1, 0, none⟩ = some (.int .i64 qS) ∧ w1.cell? ⟨w.heap.size + 1, 1, none⟩ = some (.int .i64 qE) from ⟨cell_up k (show W0.cell? ⟨w.heap.size, 0, none⟩ = some (.int .i64 kp) by rw [hW]; simp), cell_up k (show W0.cell? ⟨w.heap.size, 1, none⟩ = some (.string yp) by rw [hW]; simp), cell_up k (show W0.cell? ⟨w.heap.size, 2, none⟩ = some (.string mp) by rw [hW]; simp), cell_up k (show W0.cell? ⟨w.heap.size, 3, none⟩ = some (.string dp) by rw [hW]; simp), cell_up k (show W0.cell? ⟨w.heap.size + 1, 0, none⟩ = some (.int .i64 qS) by rw [hW]; simp), cell_up k (show W0.cell? ⟨w.heap.size + 1, 1, none⟩ = some (.int .i64 qE) by rw [hW]; simp)⟩)
  obtain ⟨c0, c1, c2, c3, c4, c5⟩ := HB.out W0 (Kp.refl _)
  have K0 := Lib.hid (Kp.refl W0)
  have HW := Lib.hid hW
  clear hW
  go_enter Tryz.func5, Tryz.ntmps5
  go_wp2_with fail
  rw [← HW.out]
  refine (AW.out _ (K00.out.trans (by first | with_reducible exact K0.out | with_reducible exact K0.out.trans (Kp.alloc _ _) | with_reducible exact (K0.out.trans (Kp.alloc _ _)).trans (Kp.alloc _ _) | with_reducible exact ((K0.out.trans (Kp.alloc _ _)).trans (Kp.alloc _ _)).trans (Kp.alloc _ _) | with_reducible exact K0.out.trans (Kp.drew _) | with_reducible exact K0.out.trans (Kp.drewN _ _)))).mono ?_
  rintro e w1 ⟨rfl, kk⟩
  have K1 := Lib.hid ((show Kp W0 _ from (by first | with_reducible exact K0.out | with_reducible exact K0.out.trans (Kp.alloc _ _) | with_reducible exact (K0.out.trans (Kp.alloc _ _)).trans (Kp.alloc _ _) | with_reducible exact ((K0.out.trans (Kp.alloc _ _)).trans (Kp.alloc _ _)).trans (Kp.alloc _ _) | with_reducible exact K0.out.trans (Kp.drew _) | with_reducible exact K0.out.trans (Kp.drewN _ _))).trans kk)
  clear kk
  clear c0 c1 c2 c3 c4 c5
  obtain ⟨c0, c1, c2, c3, c4, c5⟩ := HB.out w1 K1.out
  go_wp2_with fail
  refine (TO.out _).mono ?_
  rintro e w2 ⟨rfl, kk⟩
  have K2 := Lib.hid ((show Kp W0 _ from (by first | with_reducible exact K1.out | with_reducible exact K1.out.trans (Kp.alloc _ _) | with_reducible exact (K1.out.trans (Kp.alloc _ _)).trans (Kp.alloc _ _) | with_reducible exact ((K1.out.trans (Kp.alloc _ _)).trans (Kp.alloc _ _)).trans (Kp.alloc _ _) | with_reducible exact K1.out.trans (Kp.drew _) | with_reducible exact K1.out.trans (Kp.drewN _ _))).trans kk)
  clear kk
  clear c0 c1 c2 c3 c4 c5
  obtain ⟨c0, c1, c2, c3, c4, c5⟩ := HB.out w2 K2.out
  obtain ⟨w3, hV⟩ : ∃ x, x = w2.alloc (.cells #[.int .i64 0, .int .i64 kp, .string yp, .string mp, .string dp, .bool ask, .bool false, .slice none 0 0] 26) := ⟨_, rfl⟩
  have ka : Kp w2 w3 := by rw [hV]; exact Kp.alloc _ _
  have hgq : w3.heap[w2.heap.size]? = some (.cells #[.int .i64 0, .int .i64 kp, .string yp, .string mp, .string dp, .bool ask, .bool false, .slice none 0 0] 26 (0, 0)) := by rw [hV]; exact heap_at _ _ _ rfl
  have q0 : w3.cell? ⟨w2.heap.size, 0, none⟩ = some (.int .i64 0) := by simp [World.cell?, hgq]
  have q1 : w3.cell? ⟨w2.heap.size, 1, none⟩ = some (.int .i64 kp) := by simp [World.cell?, hgq]
  have q2 : w3.cell? ⟨w2.heap.size, 2, none⟩ = some (.string yp) := by simp [World.cell?, hgq]
  have q3 : w3.cell? ⟨w2.heap.size, 3, none⟩ = some (.string mp) := by simp [World.cell?, hgq]
  have q4 : w3.cell? ⟨w2.heap.size, 4, none⟩ = some (.string dp) := by simp [World.cell?, hgq]
  have q5 : w3.cell? ⟨w2.heap.size, 5, none⟩ = some (.bool ask) := by simp [World.cell?, hgq]
  have q6 : w3.cell? ⟨w2.heap.size, 6, none⟩ = some (.bool false) := by simp [World.cell?, hgq]
  have q7 : w3.cell? ⟨w2.heap.size, 7, none⟩ = some (.slice none 0 0) := by simp [World.cell?, hgq]
  have HB2 := Lib.hid (fun w1 (k : Kp w3 w1) => show w1.cell? ⟨w.heap.size, 0, none⟩ = some (.int .i64 kp) ∧ w1.cell? ⟨w.heap.size, 1, none⟩ = some (.string yp) ∧ w1.cell? ⟨w.heap.size, 2, none⟩ = some (.string mp) ∧ w1.cell? ⟨w.heap.size, 3, none⟩ = some (.string dp) ∧ w1.cell? ⟨w.heap.size + 1, 0, none⟩ = some (.int .i64 qS) ∧ w1.cell? ⟨w.heap.size + 1, 1, none⟩ = some (.int .i64 qE) ∧ w1.cell? ⟨w2.heap.size, 0, none⟩ = some (.int .i64 0) ∧ w1.cell? ⟨w2.heap.size, 1, none⟩ = some (.int .i64 kp) ∧ w1.cell? ⟨w2.heap.size, 2, none⟩ = some (.string yp) ∧ w1.cell? ⟨w2.heap.size, 3, none⟩ = some (.string mp) ∧ w1.cell? ⟨w2.heap.size, 4, none⟩ = some (.string dp) ∧ w1.cell? ⟨w2.heap.size, 5, none⟩ = some (.bool ask) ∧ w1.cell? ⟨w2.heap.size, 6, none⟩ = some (.bool false) ∧ w1.cell? ⟨w2.heap.size, 7, none⟩ = some (.slice none 0 0) from ⟨(HB.out w1 (K2.out.trans (ka.trans k))).1, (HB.out w1 (K2.out.trans (ka.trans k))).2.1, (HB.out w1 (K2.out.trans (ka.trans k))).2.2.1, (HB.out w1 (K2.out.trans (ka.trans k))).2.2.2.1, (HB.out w1 (K2.out.trans (ka.trans k))).2.2.2.2.1, (HB.out w1 (K2.out.trans (ka.trans k))).2.2.2.2.2, cell_up k q0, cell_up k q1, cell_up k q2, cell_up k q3, cell_up k q4, cell_up k q5, cell_up k q6, cell_up k q7⟩)
  have K01 := Lib.hid (K00.out.trans (K2.out.trans ka))
  clear HB K00 hgq c0 c1 c2 c3 c4 c5 q0 q1 q2 q3 q4 q5 q6 q7
  have HB := HB2
  have K00 := K01
  clear HB2 K01
  have K3 := Lib.hid (Kp.refl w3)
  have Hw3 := Lib.hid hV
  clear hV ka
  go_wp2_with fail
  rw [← Hw3.out]
  obtain ⟨c0, c1, c2, c3, c4, c5, c6, c7, c8, c9, c10, c11, c12, c13⟩ := HB.out w3 (Kp.refl _)
  go_wp2_with fail
  refine (SM.out _).mono ?_
  rintro e w4 ⟨⟨b, hb, rfl⟩, kk⟩
  have K4 := Lib.hid ((show Kp w3 _ from (by first | with_reducible exact K3.out | with_reducible exact K3.out.trans (Kp.alloc _ _) | with_reducible exact (K3.out.trans (Kp.alloc _ _)).trans (Kp.alloc _ _) | with_reducible exact ((K3.out.trans (Kp.alloc _ _)).trans (Kp.alloc _ _)).trans (Kp.alloc _ _) | with_reducible exact K3.out.trans (Kp.drew _) | with_reducible exact K3.out.trans (Kp.drewN _ _))).trans kk)
  clear kk c0 c1 c2 c3 c4 c5 c6 c7 c8 c9 c10 c11 c12 c13
  obtain ⟨c0, c1, c2, c3, c4, c5, c6, c7, c8, c9, c10, c11, c12, c13⟩ := HB.out w4 K4.out
  rcases hb with rfl | rfl
  rotate_left
  · go_wp2
    go_ret
    exact ⟨rfl, K00.out.trans K4.out⟩
  go_wp2_with fail
  refine (FW.out _).mono ?_
  rintro e w5 ⟨rfl, kk⟩
  have K5 := Lib.hid ((show Kp w3 _ from (by first | with_reducible exact K4.out | with_reducible exact K4.out.trans (Kp.alloc _ _) | with_reducible exact (K4.out.trans (Kp.alloc _ _)).trans (Kp.alloc _ _) | with_reducible exact ((K4.out.trans (Kp.alloc _ _)).trans (Kp.alloc _ _)).trans (Kp.alloc _ _) | with_reducible exact K4.out.trans (Kp.drew _) | with_reducible exact K4.out.trans (Kp.drewN _ _))).trans kk)
  clear kk
  clear c0 c1 c2 c3 c4 c5 c6 c7 c8 c9 c10 c11 c12 c13
  obtain ⟨c0, c1, c2, c3, c4, c5, c6, c7, c8, c9, c10, c11, c12, c13⟩ := HB.out w5 K5.out
  cases fb with
  | false =>
    go_wp2
    go_ret
    exact ⟨rfl, K00.out.trans K5.out⟩
  | true =>
    go_wp2_with fail
    refine (SN.out _ (K00.out.trans (by first | with_reducible exact K5.out | with_reducible exact K5.out.trans (Kp.alloc _ _) | with_reducible exact (K5.out.trans (Kp.alloc _ _)).trans (Kp.alloc _ _) | with_reducible exact ((K5.out.trans (Kp.alloc _ _)).trans (Kp.alloc _ _)).trans (Kp.alloc _ _) | with_reducible exact K5.out.trans (Kp.drew _) | with_reducible exact K5.out.trans (Kp.drewN _ _)))).mono ?_
    rintro e w6 ⟨rfl, kk⟩
    have K6 := Lib.hid ((show Kp w3 _ from (by first | with_reducible exact K5.out | with_reducible exact K5.out.trans (Kp.alloc _ _) | with_reducible exact (K5.out.trans (Kp.alloc _ _)).trans (Kp.alloc _ _) | with_reducible exact ((K5.out.trans (Kp.alloc _ _)).trans (Kp.alloc _ _)).trans (Kp.alloc _ _) | with_reducible exact K5.out.trans (Kp.drew _) | with_reducible exact K5.out.trans (Kp.drewN _ _))).trans kk)
    clear kk
    clear c0 c1 c2 c3 c4 c5 c6 c7 c8 c9 c10 c11 c12 c13
    obtain ⟨c0, c1, c2, c3, c4, c5, c6, c7, c8, c9, c10, c11, c12, c13⟩ := HB.out w6 K6.out
    go_wp2
    go_ret
    exact ⟨rfl, K00.out.trans K6.out⟩
set_option maxHeartbeats 16000000 in
set_option maxRecDepth 100000 in
theorem dpoint_wide_f (p : PT) (ask : Bool)  (qS qE : Int) (w : World) (hp1 : -9223372036854775808 ≤ p.k) (hp2 : p.k ≤ 9223372036854775807) (hq1 : -9223372036854775808 ≤ qS) (hq2 : qS ≤ 9223372036854775807) (hq3 : -9223372036854775808 ≤ qE) (hq4 : qE ≤ 9223372036854775807) (T : Tabs8 w) (hs : saneP p = true) (hu : unE (.mk 0 p ask false [] : ND) = 8) :
    Calls Tryz.prog 5 #[ptV p, .bool ask, .bool false, .agg #[.int .i64 qS, .int .i64 qE]] w fun e w' => e = .returned (.bool true) ∧ Kp w w' := by
  have AW := Lib.hid (fun w1 (kk : Kp w w1) => awake15 w1 (T.kp kk))
  have TO := Lib.hid (fun w1 => of_node_any p ask false w1)
  have SM := Lib.hid (fun w1 => small_any (.mk 0 p ask false [] : ND) (.slice none 0 0) w1 (.none none 0))
  have FW := Lib.hid (fun w1 => rfewG_any (.mk 0 p ask false [] : ND) (.slice none 0 0) w1 (.none none 0))
  have SN := Lib.hid (fun w1 (kk : Kp w w1) => tSaneG_any (.mk 0 p ask false [] : ND) (.slice none 0 0) w1 (.none none 0) (T.kp kk).2.1)
  rw [sane_pt] at SN
  generalize fewG (.mk 0 p ask false [] : ND) = fb at *
  have TO2 := Lib.hid (fun w1 => of_node_any p (!ask) false w1)
  have OF := Lib.hid (fun w1 (kk : Kp w w1) => dnOf_any (.mk 0 p ask false [] : ND) (.slice none 0 0) w1 (.none none 0) (T.kp kk))
  rw [ofE_pt hs, ofS_ptw (by rw [show unE (.mk 0 p ask false [] : ND) = unE (.mk 0 p ask false [] : ND) from rfl, hu]; omega)] at OF
  rw [show unE (.mk 0 p ask false [] : ND) = unE (.mk 0 p ask false [] : ND) from rfl, hu] at OF
  have OG := Lib.hid (fun w1 (kk : Kp w w1) => dnOf_any (.mk 0 p (!ask) false [] : ND) (.slice none 0 0) w1 (.none none 0) (T.kp kk))
  rw [ofE_pt hs, ofS_ptw (by rw [show unE (.mk 0 p (!ask) false [] : ND) = unE (.mk 0 p ask false [] : ND) from rfl, hu]; omega)] at OG
  rw [show unE (.mk 0 p (!ask) false [] : ND) = unE (.mk 0 p ask false [] : ND) from rfl, hu] at OG
  have PS := Lib.hid (fun w1 (kk : Kp w w1) => pset_any p w1 (T.kp kk))
  rw [hs] at SN
  rw [unE_f] at hu
  rw [hu] at PS
  clear hs hu T
  obtain ⟨kp, yp, mp, dp⟩ := p
  unfold ptV at *
  simp only at *
  unfold ndV at *
  simp only [ND.k, ND.p, ND.a, ND.t, ND.l] at *
  obtain ⟨W0, hW⟩ : ∃ W0, W0 = (w.alloc (.cells #[.int .i64 kp, .string yp, .string mp, .string dp] 23)).alloc (.cells #[.int .i64 qS, .int .i64 qE] 42) := ⟨_, rfl⟩
  have K00 := Lib.hid (show Kp w W0 by rw [hW]; exact (Kp.alloc _ _).trans (Kp.alloc _ _))
  have HB := Lib.hid (fun w1 (k : Kp W0 w1) => show w1.cell? ⟨w.heap.size, 0, none⟩ = some (.int .i64 kp) ∧ w1.cell? ⟨w.heap.size, 1, none⟩ = some (.string yp) ∧ w1.cell? ⟨w.heap.size, 2, none⟩ = some (.string mp) ∧ w1.cell? ⟨w.heap.size, 3, none⟩ = some (.string dp) ∧ w1.cell? ⟨w.heap.size + 1, 0, none⟩ = some (.int .i64 qS) ∧ w1.cell? ⟨w.heap.size + 1, 1, none⟩ = some (.int .i64 qE) from ⟨cell_up k (show W0.cell? ⟨w.heap.size, 0, none⟩ = some (.int .i64 kp) by rw [hW]; simp), cell_up k (show W0.cell? ⟨w.heap.size, 1, none⟩ = some (.string yp) by rw [hW]; simp), cell_up k (show W0.cell? ⟨w.heap.size, 2, none⟩ = some (.string mp) by rw [hW]; simp), cell_up k (show W0.cell? ⟨w.heap.size, 3, none⟩ = some (.string dp) by rw [hW]; simp), cell_up k (show W0.cell? ⟨w.heap.size + 1, 0, none⟩ = some (.int .i64 qS) by rw [hW]; simp), cell_up k (show W0.cell? ⟨w.heap.size + 1, 1, none⟩ = some (.int .i64 qE) by rw [hW]; simp)⟩)
  obtain ⟨c0, c1, c2, c3, c4, c5⟩ := HB.out W0 (Kp.refl _)
  have K0 := Lib.hid (Kp.refl W0)
  have HW := Lib.hid hW
  clear hW
  go_enter Tryz.func5, Tryz.ntmps5
  go_wp2_with fail
  rw [← HW.out]
  refine (AW.out _ (K00.out.trans (by first | with_reducible exact K0.out | with_reducible exact K0.out.trans (Kp.alloc _ _) | with_reducible exact (K0.out.trans (Kp.alloc _ _)).trans (Kp.alloc _ _) | with_reducible exact ((K0.out.trans (Kp.alloc _ _)).trans (Kp.alloc _ _)).trans (Kp.alloc _ _) | with_reducible exact K0.out.trans (Kp.drew _) | with_reducible exact K0.out.trans (Kp.drewN _ _)))).mono ?_
  rintro e w1 ⟨rfl, kk⟩
  have K1 := Lib.hid ((show Kp W0 _ from (by first | with_reducible exact K0.out | with_reducible exact K0.out.trans (Kp.alloc _ _) | with_reducible exact (K0.out.trans (Kp.alloc _ _)).trans (Kp.alloc _ _) | with_reducible exact ((K0.out.trans (Kp.alloc _ _)).trans (Kp.alloc _ _)).trans (Kp.alloc _ _) | with_reducible exact K0.out.trans (Kp.drew _) | with_reducible exact K0.out.trans (Kp.drewN _ _))).trans kk)
  clear kk
  clear c0 c1 c2 c3 c4 c5
  obtain ⟨c0, c1, c2, c3, c4, c5⟩ := HB.out w1 K1.out
  go_wp2_with fail
  refine (TO.out _).mono ?_
  rintro e w2 ⟨rfl, kk⟩
  have K2 := Lib.hid ((show Kp W0 _ from (by first | with_reducible exact K1.out | with_reducible exact K1.out.trans (Kp.alloc _ _) | with_reducible exact (K1.out.trans (Kp.alloc _ _)).trans (Kp.alloc _ _) | with_reducible exact ((K1.out.trans (Kp.alloc _ _)).trans (Kp.alloc _ _)).trans (Kp.alloc _ _) | with_reducible exact K1.out.trans (Kp.drew _) | with_reducible exact K1.out.trans (Kp.drewN _ _))).trans kk)
  clear kk
  clear c0 c1 c2 c3 c4 c5
  obtain ⟨c0, c1, c2, c3, c4, c5⟩ := HB.out w2 K2.out
  obtain ⟨w3, hV⟩ : ∃ x, x = w2.alloc (.cells #[.int .i64 0, .int .i64 kp, .string yp, .string mp, .string dp, .bool ask, .bool false, .slice none 0 0] 26) := ⟨_, rfl⟩
  have ka : Kp w2 w3 := by rw [hV]; exact Kp.alloc _ _
  have hgq : w3.heap[w2.heap.size]? = some (.cells #[.int .i64 0, .int .i64 kp, .string yp, .string mp, .string dp, .bool ask, .bool false, .slice none 0 0] 26 (0, 0)) := by rw [hV]; exact heap_at _ _ _ rfl
  have q0 : w3.cell? ⟨w2.heap.size, 0, none⟩ = some (.int .i64 0) := by simp [World.cell?, hgq]
  have q1 : w3.cell? ⟨w2.heap.size, 1, none⟩ = some (.int .i64 kp) := by simp [World.cell?, hgq]
  have q2 : w3.cell? ⟨w2.heap.size, 2, none⟩ = some (.string yp) := by simp [World.cell?, hgq]
  have q3 : w3.cell? ⟨w2.heap.size, 3, none⟩ = some (.string mp) := by simp [World.cell?, hgq]
  have q4 : w3.cell? ⟨w2.heap.size, 4, none⟩ = some (.string dp) := by simp [World.cell?, hgq]
  have q5 : w3.cell? ⟨w2.heap.size, 5, none⟩ = some (.bool ask) := by simp [World.cell?, hgq]
  have q6 : w3.cell? ⟨w2.heap.size, 6, none⟩ = some (.bool false) := by simp [World.cell?, hgq]
  have q7 : w3.cell? ⟨w2.heap.size, 7, none⟩ = some (.slice none 0 0) := by simp [World.cell?, hgq]
  have HB2 := Lib.hid (fun w1 (k : Kp w3 w1) => show w1.cell? ⟨w.heap.size, 0, none⟩ = some (.int .i64 kp) ∧ w1.cell? ⟨w.heap.size, 1, none⟩ = some (.string yp) ∧ w1.cell? ⟨w.heap.size, 2, none⟩ = some (.string mp) ∧ w1.cell? ⟨w.heap.size, 3, none⟩ = some (.string dp) ∧ w1.cell? ⟨w.heap.size + 1, 0, none⟩ = some (.int .i64 qS) ∧ w1.cell? ⟨w.heap.size + 1, 1, none⟩ = some (.int .i64 qE) ∧ w1.cell? ⟨w2.heap.size, 0, none⟩ = some (.int .i64 0) ∧ w1.cell? ⟨w2.heap.size, 1, none⟩ = some (.int .i64 kp) ∧ w1.cell? ⟨w2.heap.size, 2, none⟩ = some (.string yp) ∧ w1.cell? ⟨w2.heap.size, 3, none⟩ = some (.string mp) ∧ w1.cell? ⟨w2.heap.size, 4, none⟩ = some (.string dp) ∧ w1.cell? ⟨w2.heap.size, 5, none⟩ = some (.bool ask) ∧ w1.cell? ⟨w2.heap.size, 6, none⟩ = some (.bool false) ∧ w1.cell? ⟨w2.heap.size, 7, none⟩ = some (.slice none 0 0) from ⟨(HB.out w1 (K2.out.trans (ka.trans k))).1, (HB.out w1 (K2.out.trans (ka.trans k))).2.1, (HB.out w1 (K2.out.trans (ka.trans k))).2.2.1, (HB.out w1 (K2.out.trans (ka.trans k))).2.2.2.1, (HB.out w1 (K2.out.trans (ka.trans k))).2.2.2.2.1, (HB.out w1 (K2.out.trans (ka.trans k))).2.2.2.2.2, cell_up k q0, cell_up k q1, cell_up k q2, cell_up k q3, cell_up k q4, cell_up k q5, cell_up k q6, cell_up k q7⟩)
  have K01 := Lib.hid (K00.out.trans (K2.out.trans ka))
  clear HB K00 hgq c0 c1 c2 c3 c4 c5 q0 q1 q2 q3 q4 q5 q6 q7
  have HB := HB2
  have K00 := K01
  clear HB2 K01
  have K3 := Lib.hid (Kp.refl w3)
  have Hw3 := Lib.hid hV
  clear hV ka
  go_wp2_with fail
  rw [← Hw3.out]
  obtain ⟨c0, c1, c2, c3, c4, c5, c6, c7, c8, c9, c10, c11, c12, c13⟩ := HB.out w3 (Kp.refl _)
  go_wp2_with fail
  refine (SM.out _).mono ?_
  rintro e w4 ⟨⟨b, hb, rfl⟩, kk⟩
  have K4 := Lib.hid ((show Kp w3 _ from (by first | with_reducible exact K3.out | with_reducible exact K3.out.trans (Kp.alloc _ _) | with_reducible exact (K3.out.trans (Kp.alloc _ _)).trans (Kp.alloc _ _) | with_reducible exact ((K3.out.trans (Kp.alloc _ _)).trans (Kp.alloc _ _)).trans (Kp.alloc _ _) | with_reducible exact K3.out.trans (Kp.drew _) | with_reducible exact K3.out.trans (Kp.drewN _ _))).trans kk)
  clear kk c0 c1 c2 c3 c4 c5 c6 c7 c8 c9 c10 c11 c12 c13
  obtain ⟨c0, c1, c2, c3, c4, c5, c6, c7, c8, c9, c10, c11, c12, c13⟩ := HB.out w4 K4.out
  rcases hb with rfl | rfl
  rotate_left
  · go_wp2
    go_ret
    exact ⟨rfl, K00.out.trans K4.out⟩
  go_wp2_with fail
  refine (FW.out _).mono ?_
  rintro e w5 ⟨rfl, kk⟩
  have K5 := Lib.hid ((show Kp w3 _ from (by first | with_reducible exact K4.out | with_reducible exact K4.out.trans (Kp.alloc _ _) | with_reducible exact (K4.out.trans (Kp.alloc _ _)).trans (Kp.alloc _ _) | with_reducible exact ((K4.out.trans (Kp.alloc _ _)).trans (Kp.alloc _ _)).trans (Kp.alloc _ _) | with_reducible exact K4.out.trans (Kp.drew _) | with_reducible exact K4.out.trans (Kp.drewN _ _))).trans kk)
  clear kk
  clear c0 c1 c2 c3 c4 c5 c6 c7 c8 c9 c10 c11 c12 c13
  obtain ⟨c0, c1, c2, c3, c4, c5, c6, c7, c8, c9, c10, c11, c12, c13⟩ := HB.out w5 K5.out
  cases fb with
  | false =>
    go_wp2
    go_ret
    exact ⟨rfl, K00.out.trans K5.out⟩
  | true =>
    go_wp2_with fail
    refine (SN.out _ (K00.out.trans (by first | with_reducible exact K5.out | with_reducible exact K5.out.trans (Kp.alloc _ _) | with_reducible exact (K5.out.trans (Kp.alloc _ _)).trans (Kp.alloc _ _) | with_reducible exact ((K5.out.trans (Kp.alloc _ _)).trans (Kp.alloc _ _)).trans (Kp.alloc _ _) | with_reducible exact K5.out.trans (Kp.drew _) | with_reducible exact K5.out.trans (Kp.drewN _ _)))).mono ?_
    rintro e w6 ⟨rfl, kk⟩
    have K6 := Lib.hid ((show Kp w3 _ from (by first | with_reducible exact K5.out | with_reducible exact K5.out.trans (Kp.alloc _ _) | with_reducible exact (K5.out.trans (Kp.alloc _ _)).trans (Kp.alloc _ _) | with_reducible exact ((K5.out.trans (Kp.alloc _ _)).trans (Kp.alloc _ _)).trans (Kp.alloc _ _) | with_reducible exact K5.out.trans (Kp.drew _) | with_reducible exact K5.out.trans (Kp.drewN _ _))).trans kk)
    clear kk
    clear c0 c1 c2 c3 c4 c5 c6 c7 c8 c9 c10 c11 c12 c13
    obtain ⟨c0, c1, c2, c3, c4, c5, c6, c7, c8, c9, c10, c11, c12, c13⟩ := HB.out w6 K6.out
    go_wp2_with fail
    refine (OF.out _ (K00.out.trans (by first | with_reducible exact K6.out | with_reducible exact K6.out.trans (Kp.alloc _ _) | with_reducible exact (K6.out.trans (Kp.alloc _ _)).trans (Kp.alloc _ _) | with_reducible exact ((K6.out.trans (Kp.alloc _ _)).trans (Kp.alloc _ _)).trans (Kp.alloc _ _) | with_reducible exact K6.out.trans (Kp.drew _) | with_reducible exact K6.out.trans (Kp.drewN _ _)))).mono ?_
    rintro e w7 ⟨v7, rfl, h7, kk⟩
    have K7 := Lib.hid ((show Kp w3 _ from (by first | with_reducible exact K6.out | with_reducible exact K6.out.trans (Kp.alloc _ _) | with_reducible exact (K6.out.trans (Kp.alloc _ _)).trans (Kp.alloc _ _) | with_reducible exact ((K6.out.trans (Kp.alloc _ _)).trans (Kp.alloc _ _)).trans (Kp.alloc _ _) | with_reducible exact K6.out.trans (Kp.drew _) | with_reducible exact K6.out.trans (Kp.drewN _ _))).trans kk)
    obtain ⟨ad7, cp7, rfl⟩ := h7.slice
    clear kk h7
    clear c0 c1 c2 c3 c4 c5 c6 c7 c8 c9 c10 c11 c12 c13
    obtain ⟨c0, c1, c2, c3, c4, c5, c6, c7, c8, c9, c10, c11, c12, c13⟩ := HB.out w7 K7.out
    go_wp2_with fail
    refine (PS.out _ (K00.out.trans (by first | with_reducible exact K7.out | with_reducible exact K7.out.trans (Kp.alloc _ _) | with_reducible exact (K7.out.trans (Kp.alloc _ _)).trans (Kp.alloc _ _) | with_reducible exact ((K7.out.trans (Kp.alloc _ _)).trans (Kp.alloc _ _)).trans (Kp.alloc _ _) | with_reducible exact K7.out.trans (Kp.drew _) | with_reducible exact K7.out.trans (Kp.drewN _ _)))).mono ?_
    rintro e w8 ⟨v8, rfl, own8, kk⟩
    have K8 := Lib.hid ((show Kp w3 _ from (by first | with_reducible exact K7.out | with_reducible exact K7.out.trans (Kp.alloc _ _) | with_reducible exact (K7.out.trans (Kp.alloc _ _)).trans (Kp.alloc _ _) | with_reducible exact ((K7.out.trans (Kp.alloc _ _)).trans (Kp.alloc _ _)).trans (Kp.alloc _ _) | with_reducible exact K7.out.trans (Kp.drew _) | with_reducible exact K7.out.trans (Kp.drewN _ _))).trans kk)
    obtain ⟨ad8, cp8, rfl⟩ := own_slice own8
    clear kk own8
    clear c0 c1 c2 c3 c4 c5 c6 c7 c8 c9 c10 c11 c12 c13
    obtain ⟨c0, c1, c2, c3, c4, c5, c6, c7, c8, c9, c10, c11, c12, c13⟩ := HB.out w8 K8.out
    go_wp2_with fail
    refine (TO2.out _).mono ?_
    rintro e w9 ⟨rfl, kk⟩
    have K9 := Lib.hid ((show Kp w3 _ from (by first | with_reducible exact K8.out | with_reducible exact K8.out.trans (Kp.alloc _ _) | with_reducible exact (K8.out.trans (Kp.alloc _ _)).trans (Kp.alloc _ _) | with_reducible exact ((K8.out.trans (Kp.alloc _ _)).trans (Kp.alloc _ _)).trans (Kp.alloc _ _) | with_reducible exact K8.out.trans (Kp.drew _) | with_reducible exact K8.out.trans (Kp.drewN _ _))).trans kk)
    clear kk
    clear c0 c1 c2 c3 c4 c5 c6 c7 c8 c9 c10 c11 c12 c13
    obtain ⟨c0, c1, c2, c3, c4, c5, c6, c7, c8, c9, c10, c11, c12, c13⟩ := HB.out w9 K9.out
    go_wp2_with fail
    refine (OG.out _ (K00.out.trans (by first | with_reducible exact K9.out | with_reducible exact K9.out.trans (Kp.alloc _ _) | with_reducible exact (K9.out.trans (Kp.alloc _ _)).trans (Kp.alloc _ _) | with_reducible exact ((K9.out.trans (Kp.alloc _ _)).trans (Kp.alloc _ _)).trans (Kp.alloc _ _) | with_reducible exact K9.out.trans (Kp.drew _) | with_reducible exact K9.out.trans (Kp.drewN _ _)))).mono ?_
    rintro e w10 ⟨va, rfl, ha, kk⟩
    have K10 := Lib.hid ((show Kp w3 _ from (by first | with_reducible exact K9.out | with_reducible exact K9.out.trans (Kp.alloc _ _) | with_reducible exact (K9.out.trans (Kp.alloc _ _)).trans (Kp.alloc _ _) | with_reducible exact ((K9.out.trans (Kp.alloc _ _)).trans (Kp.alloc _ _)).trans (Kp.alloc _ _) | with_reducible exact K9.out.trans (Kp.drew _) | with_reducible exact K9.out.trans (Kp.drewN _ _))).trans kk)
    obtain ⟨ada, cpa, rfl⟩ := ha.slice
    clear kk ha
    clear c0 c1 c2 c3 c4 c5 c6 c7 c8 c9 c10 c11 c12 c13
    obtain ⟨c0, c1, c2, c3, c4, c5, c6, c7, c8, c9, c10, c11, c12, c13⟩ := HB.out w10 K10.out
    have KS := Lib.hid (fun w' (kq : Kp w10 w') => show w'.cell? ⟨w.heap.size, 0, none⟩ = some (.int .i64 kp) ∧ w'.cell? ⟨w.heap.size, 1, none⟩ = some (.string yp) ∧ w'.cell? ⟨w.heap.size, 2, none⟩ = some (.string mp) ∧ w'.cell? ⟨w.heap.size, 3, none⟩ = some (.string dp) ∧ w'.cell? ⟨w.heap.size + 1, 0, none⟩ = some (.int .i64 qS) ∧ w'.cell? ⟨w.heap.size + 1, 1, none⟩ = some (.int .i64 qE) ∧ w'.cell? ⟨w2.heap.size, 0, none⟩ = some (.int .i64 0) ∧ w'.cell? ⟨w2.heap.size, 1, none⟩ = some (.int .i64 kp) ∧ w'.cell? ⟨w2.heap.size, 2, none⟩ = some (.string yp) ∧ w'.cell? ⟨w2.heap.size, 3, none⟩ = some (.string mp) ∧ w'.cell? ⟨w2.heap.size, 4, none⟩ = some (.string dp) ∧ w'.cell? ⟨w2.heap.size, 5, none⟩ = some (.bool ask) ∧ w'.cell? ⟨w2.heap.size, 6, none⟩ = some (.bool false) ∧ w'.cell? ⟨w2.heap.size, 7, none⟩ = some (.slice none 0 0) ∧ Kp w10 w' from ⟨(HB.out w' (K10.out.trans kq)).1, (HB.out w' (K10.out.trans kq)).2.1, (HB.out w' (K10.out.trans kq)).2.2.1, (HB.out w' (K10.out.trans kq)).2.2.2.1, (HB.out w' (K10.out.trans kq)).2.2.2.2.1, (HB.out w' (K10.out.trans kq)).2.2.2.2.2.1, (HB.out w' (K10.out.trans kq)).2.2.2.2.2.2.1, (HB.out w' (K10.out.trans kq)).2.2.2.2.2.2.2.1, (HB.out w' (K10.out.trans kq)).2.2.2.2.2.2.2.2.1, (HB.out w' (K10.out.trans kq)).2.2.2.2.2.2.2.2.2.1, (HB.out w' (K10.out.trans kq)).2.2.2.2.2.2.2.2.2.2.1, (HB.out w' (K10.out.trans kq)).2.2.2.2.2.2.2.2.2.2.2.1, (HB.out w' (K10.out.trans kq)).2.2.2.2.2.2.2.2.2.2.2.2.1, (HB.out w' (K10.out.trans kq)).2.2.2.2.2.2.2.2.2.2.2.2.2, kq⟩)
    go_wp2_with fail
    refine wp_region_held_drew (S := fun w' => w'.cell? ⟨w.heap.size, 0, none⟩ = some (.int .i64 kp) ∧ w'.cell? ⟨w.heap.size, 1, none⟩ = some (.string yp) ∧ w'.cell? ⟨w.heap.size, 2, none⟩ = some (.string mp) ∧ w'.cell? ⟨w.heap.size, 3, none⟩ = some (.string dp) ∧ w'.cell? ⟨w.heap.size + 1, 0, none⟩ = some (.int .i64 qS) ∧ w'.cell? ⟨w.heap.size + 1, 1, none⟩ = some (.int .i64 qE) ∧ w'.cell? ⟨w2.heap.size, 0, none⟩ = some (.int .i64 0) ∧ w'.cell? ⟨w2.heap.size, 1, none⟩ = some (.int .i64 kp) ∧ w'.cell? ⟨w2.heap.size, 2, none⟩ = some (.string yp) ∧ w'.cell? ⟨w2.heap.size, 3, none⟩ = some (.string mp) ∧ w'.cell? ⟨w2.heap.size, 4, none⟩ = some (.string dp) ∧ w'.cell? ⟨w2.heap.size, 5, none⟩ = some (.bool ask) ∧ w'.cell? ⟨w2.heap.size, 6, none⟩ = some (.bool false) ∧ w'.cell? ⟨w2.heap.size, 7, none⟩ = some (.slice none 0 0) ∧ Kp w10 w') (by kernel_rfl) ?_ (fun hHeld0 => ?_)
    · (try dsimp only); exact KS.out _ (by first | assumption | exact Kp.drew _)
    refine tkW (v := ?_) 0 ptA0 rfl (by kernel_rfl) (by kernel_rfl) (by kernel_rfl) (fun _ _ _ h => h) (by rfl) ?_ (by assumption) ?_
    rotate_left
    · intro w hSw; (try dsimp only at hSw); go_simp; (try with_reducible rfl)
    (try simp only [Act.put, ptA0, List.setIfInBounds_toArray, List.set_cons_zero, List.set_cons_succ])
    refine tkW (v := ?_) 1 ptA1 rfl (by kernel_rfl) (by kernel_rfl) (by kernel_rfl) (fun _ _ _ h => h) (by rfl) ?_ (by assumption) ?_
    rotate_left
    · intro w hSw; (try dsimp only at hSw); go_simp; (try with_reducible rfl)
    (try simp only [Act.put, ptA1, List.setIfInBounds_toArray, List.set_cons_zero, List.set_cons_succ])
    refine tkW (v := ?_) 2 ptA2 rfl (by kernel_rfl) (by kernel_rfl) (by kernel_rfl) (fun _ _ _ h => h) (by rfl) ?_ (by assumption) ?_
    rotate_left
    · intro w hSw; (try dsimp only at hSw); go_simp; (try with_reducible rfl)
    (try simp only [Act.put, ptA2, List.setIfInBounds_toArray, List.set_cons_zero, List.set_cons_succ])
    refine tkW (v := ?_) 3 ptA3 rfl (by kernel_rfl) (by kernel_rfl) (by kernel_rfl) (fun _ _ _ h => h) (by rfl) ?_ (by assumption) ?_
    rotate_left
    · intro w hSw; (try dsimp only at hSw); go_simp; (try with_reducible rfl)
    (try simp only [Act.put, ptA3, List.setIfInBounds_toArray, List.set_cons_zero, List.set_cons_succ])
    refine tkW (v := ?_) 4 ptA4 rfl (by kernel_rfl) (by kernel_rfl) (by kernel_rfl) (fun _ _ _ h => h) (by rfl) ?_ (by assumption) ?_
    rotate_left
    · intro w hSw; (try dsimp only at hSw); go_simp; (try with_reducible rfl)
    (try simp only [Act.put, ptA4, List.setIfInBounds_toArray, List.set_cons_zero, List.set_cons_succ])
    refine tkW (v := ?_) 5 ptA5 rfl (by kernel_rfl) (by kernel_rfl) (by kernel_rfl) (fun _ _ _ h => h) (by rfl) ?_ (by assumption) ?_
    rotate_left
    · intro w hSw; (try dsimp only at hSw); go_simp; (try with_reducible rfl)
    (try simp only [Act.put, ptA5, List.setIfInBounds_toArray, List.set_cons_zero, List.set_cons_succ])
    refine tkW (v := ?_) 6 ptA6 rfl (by kernel_rfl) (by kernel_rfl) (by kernel_rfl) (fun _ _ _ h => h) (by rfl) ?_ (by assumption) ?_
    rotate_left
    · intro w hSw; (try dsimp only at hSw); go_simp; (try with_reducible rfl)
    (try simp only [Act.put, ptA6, List.setIfInBounds_toArray, List.set_cons_zero, List.set_cons_succ])
    refine tkW (v := ?_) 7 ptA7 rfl (by kernel_rfl) (by kernel_rfl) (by kernel_rfl) (fun _ _ _ h => h) (by rfl) ?_ (by assumption) ?_
    rotate_left
    · intro w hSw; (try dsimp only at hSw); go_simp; (try with_reducible rfl)
    (try simp only [Act.put, ptA7, List.setIfInBounds_toArray, List.set_cons_zero, List.set_cons_succ])
    refine tkW (v := ?_) 8 ptA8 rfl (by kernel_rfl) (by kernel_rfl) (by kernel_rfl) (fun _ _ _ h => h) (by rfl) ?_ (by assumption) ?_
    rotate_left
    · intro w hSw; (try dsimp only at hSw); go_simp; (try with_reducible rfl)
    (try simp only [Act.put, ptA8, List.setIfInBounds_toArray, List.set_cons_zero, List.set_cons_succ])
    refine tkW (v := ?_) 9 ptA9 rfl (by kernel_rfl) (by kernel_rfl) (by kernel_rfl) (fun _ _ _ h => h) (by rfl) ?_ (by assumption) ?_
    rotate_left
    · intro w hSw; (try dsimp only at hSw); go_simp; (try with_reducible rfl)
    (try simp only [Act.put, ptA9, List.setIfInBounds_toArray, List.set_cons_zero, List.set_cons_succ])
    refine tkU 10 ptA10 rfl (by kernel_rfl) (by kernel_rfl) (by kernel_rfl) (fun _ _ _ h => h) (by rfl) (by assumption) ?_
    (try simp only [Act.put, ptA10, List.setIfInBounds_toArray, List.set_cons_zero, List.set_cons_succ])
    refine tkU 11 ptA11 rfl (by kernel_rfl) (by kernel_rfl) (by kernel_rfl) (fun _ _ _ h => h) (by rfl) (by assumption) ?_
    (try simp only [Act.put, ptA11, List.setIfInBounds_toArray, List.set_cons_zero, List.set_cons_succ])
    refine tkU 12 ptA12 rfl (by kernel_rfl) (by kernel_rfl) (by kernel_rfl) (fun _ _ _ h => h) (by rfl) (by assumption) ?_
    (try simp only [Act.put, ptA12, List.setIfInBounds_toArray, List.set_cons_zero, List.set_cons_succ])
    refine tkU 13 ptA13 rfl (by kernel_rfl) (by kernel_rfl) (by kernel_rfl) (fun _ _ _ h => h) (by rfl) (by assumption) ?_
    (try simp only [Act.put, ptA13, List.setIfInBounds_toArray, List.set_cons_zero, List.set_cons_succ])
    refine tkU 14 ptA14 rfl (by kernel_rfl) (by kernel_rfl) (by kernel_rfl) (fun _ _ _ h => h) (by rfl) (by assumption) ?_
    (try simp only [Act.put, ptA14, List.setIfInBounds_toArray, List.set_cons_zero, List.set_cons_succ])
    refine tkU 15 ptA15 rfl (by kernel_rfl) (by kernel_rfl) (by kernel_rfl) (fun _ _ _ h => h) (by rfl) (by assumption) ?_
    (try simp only [Act.put, ptA15, List.setIfInBounds_toArray, List.set_cons_zero, List.set_cons_succ])
    refine tkU 16 ptA16 rfl (by kernel_rfl) (by kernel_rfl) (by kernel_rfl) (fun _ _ _ h => h) (by rfl) (by assumption) ?_
    (try simp only [Act.put, ptA16, List.setIfInBounds_toArray, List.set_cons_zero, List.set_cons_succ])
    refine tkU 17 ptA17 rfl (by kernel_rfl) (by kernel_rfl) (by kernel_rfl) (fun _ _ _ h => h) (by rfl) (by assumption) ?_
    (try simp only [Act.put, ptA17, List.setIfInBounds_toArray, List.set_cons_zero, List.set_cons_succ])
    refine tkU 18 ptA18 rfl (by kernel_rfl) (by kernel_rfl) (by kernel_rfl) (fun _ _ _ h => h) (by rfl) (by assumption) ?_
    (try simp only [Act.put, ptA18, List.setIfInBounds_toArray, List.set_cons_zero, List.set_cons_succ])
    refine tkU 19 ptA19 rfl (by kernel_rfl) (by kernel_rfl) (by kernel_rfl) (fun _ _ _ h => h) (by rfl) (by assumption) ?_
    (try simp only [Act.put, ptA19, List.setIfInBounds_toArray, List.set_cons_zero, List.set_cons_succ])
    refine tkU 20 ptA20 rfl (by kernel_rfl) (by kernel_rfl) (by kernel_rfl) (fun _ _ _ h => h) (by rfl) (by assumption) ?_
    (try simp only [Act.put, ptA20, List.setIfInBounds_toArray, List.set_cons_zero, List.set_cons_succ])
    refine tkU 21 ptA21 rfl (by kernel_rfl) (by kernel_rfl) (by kernel_rfl) (fun _ _ _ h => h) (by rfl) (by assumption) ?_
    (try simp only [Act.put, ptA21, List.setIfInBounds_toArray, List.set_cons_zero, List.set_cons_succ])
    refine tkU 22 ptA22 rfl (by kernel_rfl) (by kernel_rfl) (by kernel_rfl) (fun _ _ _ h => h) (by rfl) (by assumption) ?_
    (try simp only [Act.put, ptA22, List.setIfInBounds_toArray, List.set_cons_zero, List.set_cons_succ])
    refine tkU 23 ptA23 rfl (by kernel_rfl) (by kernel_rfl) (by kernel_rfl) (fun _ _ _ h => h) (by rfl) (by assumption) ?_
    (try simp only [Act.put, ptA23, List.setIfInBounds_toArray, List.set_cons_zero, List.set_cons_succ])
    refine tkU 24 ptA24 rfl (by kernel_rfl) (by kernel_rfl) (by kernel_rfl) (fun _ _ _ h => h) (by rfl) (by assumption) ?_
    (try simp only [Act.put, ptA24, List.setIfInBounds_toArray, List.set_cons_zero, List.set_cons_succ])
    refine tkW (v := ?_) 25 ptA25 rfl (by kernel_rfl) (by kernel_rfl) (by kernel_rfl) (fun _ _ _ h => h) (by rfl) ?_ (by assumption) ?_
    rotate_left
    · intro w hSw; (try dsimp only at hSw); go_simp; (try with_reducible rfl)
    (try simp only [Act.put, ptA25, List.setIfInBounds_toArray, List.set_cons_zero, List.set_cons_succ])
    refine tkW (v := ?_) 26 ptA26 rfl (by kernel_rfl) (by kernel_rfl) (by kernel_rfl) (fun _ _ _ h => h) (by rfl) ?_ (by assumption) ?_
    rotate_left
    · intro w hSw; (try dsimp only at hSw); go_simp; (try with_reducible rfl)
    (try simp only [Act.put, ptA26, List.setIfInBounds_toArray, List.set_cons_zero, List.set_cons_succ])
    refine tkW (v := ?_) 27 ptA27 rfl (by kernel_rfl) (by kernel_rfl) (by kernel_rfl) (fun _ _ _ h => h) (by rfl) ?_ (by assumption) ?_
    rotate_left
    · intro w hSw; (try dsimp only at hSw); go_simp; (try with_reducible rfl)
    (try simp only [Act.put, ptA27, List.setIfInBounds_toArray, List.set_cons_zero, List.set_cons_succ])
    refine wpAnyH_done (by kernel_rfl) ?_ _
    go_wp2
    go_ret
    exact ⟨rfl, K00.out.trans (K10.out.trans (by first | assumption | exact Kp.drew _))⟩
set_option maxHeartbeats 16000000 in
set_option maxRecDepth 100000 in
theorem dpoint_yes_f (p : PT) (ask : Bool)  (qS qE : Int) (w : World) (hp1 : -9223372036854775808 ≤ p.k) (hp2 : p.k ≤ 9223372036854775807) (hq1 : -9223372036854775808 ≤ qS) (hq2 : qS ≤ 9223372036854775807) (hq3 : -9223372036854775808 ≤ qE) (hq4 : qE ≤ 9223372036854775807) (T : Tabs8 w) (hs : saneP p = true) (hu : unE (.mk 0 p ask false [] : ND) = 0) :
    Calls Tryz.prog 5 #[ptV p, .bool ask, .bool false, .agg #[.int .i64 qS, .int .i64 qE]] w fun e w' => e = .returned (.bool true) ∧ Kp w w' := by
  have AW := Lib.hid (fun w1 (kk : Kp w w1) => awake15 w1 (T.kp kk))
  have TO := Lib.hid (fun w1 => of_node_any p ask false w1)
  have SM := Lib.hid (fun w1 => small_any (.mk 0 p ask false [] : ND) (.slice none 0 0) w1 (.none none 0))
  have FW := Lib.hid (fun w1 => rfewG_any (.mk 0 p ask false [] : ND) (.slice none 0 0) w1 (.none none 0))
  have SN := Lib.hid (fun w1 (kk : Kp w w1) => tSaneG_any (.mk 0 p ask false [] : ND) (.slice none 0 0) w1 (.none none 0) (T.kp kk).2.1)
  rw [sane_pt] at SN
  generalize fewG (.mk 0 p ask false [] : ND) = fb at *
  have TO2 := Lib.hid (fun w1 => of_node_any p (!ask) false w1)
  have OF := Lib.hid (fun w1 (kk : Kp w w1) => dnOf_any (.mk 0 p ask false [] : ND) (.slice none 0 0) w1 (.none none 0) (T.kp kk))
  rw [ofE_pt hs, ofS_pt hs (by rw [show unE (.mk 0 p ask false [] : ND) = unE (.mk 0 p ask false [] : ND) from rfl, hu])] at OF
  rw [show unE (.mk 0 p ask false [] : ND) = unE (.mk 0 p ask false [] : ND) from rfl, hu] at OF
  rw [show unS (.mk 0 p ask false [] : ND) = unS (.mk 0 p ask false [] : ND) from rfl] at OF
  have OG := Lib.hid (fun w1 (kk : Kp w w1) => dnOf_any (.mk 0 p (!ask) false [] : ND) (.slice none 0 0) w1 (.none none 0) (T.kp kk))
  rw [ofE_pt hs, ofS_pt hs (by rw [show unE (.mk 0 p (!ask) false [] : ND) = unE (.mk 0 p ask false [] : ND) from rfl, hu])] at OG
  rw [show unE (.mk 0 p (!ask) false [] : ND) = unE (.mk 0 p ask false [] : ND) from rfl, hu] at OG
  rw [show unS (.mk 0 p (!ask) false [] : ND) = unS (.mk 0 p ask false [] : ND) from rfl] at OG
  have PS := Lib.hid (fun w1 (kk : Kp w w1) => pset_any p w1 (T.kp kk))
  rw [hs] at SN
  have uo := un_ok hu
  simp only [ND.p] at uo
  rw [unE_f] at hu
  rw [hu] at PS
  rw [unS_f] at OF OG uo
  generalize setS p = U at *
  have LO := lf_one uo
  have HC := Lib.hid (fun v w1 (hv : LeavesAt w1 v [⟨false, p.k, U, []⟩]) (kk : Kp w w1) => by
    have c := denHas_any v _ qS qE w1 hv LO (T.kp kk).1 hq1 hq2 hq3 hq4
    rw [show hasL [⟨false, p.k, U, []⟩] qS qE = hasF (famR ⟨false, p.k, U, []⟩) qS qE by unfold hasL; rw [List.any_cons, List.any_nil, Bool.or_false]] at c
    exact c)
  have LH := Lib.hid (fun ad c w1 (hv : RunsAt w1 (.slice ad U.length c) U) (kk : Kp w w1) => by
    have c := leafHas_any ⟨false, p.k, U, []⟩ (.slice ad U.length c) (.slice none 0 0) qS qE w1 ⟨hv, .inl ⟨_, _, rfl, rfl⟩, (LO _ (List.mem_singleton.2 rfl)).1, dw_nil, (LO _ (List.mem_singleton.2 rfl)).2.2.1, by simp⟩ (T.kp kk).1 hq1 hq2 hq3 hq4
    unfold leafV at c
    exact c)
  generalize hasF (famR ⟨false, p.k, U, []⟩) qS qE = hb at *
  simp only at LH HC OF OG
  clear LO uo
  clear hs hu T
  obtain ⟨kp, yp, mp, dp⟩ := p
  unfold ptV at *
  simp only at *
  unfold ndV at *
  simp only [ND.k, ND.p, ND.a, ND.t, ND.l] at *
  obtain ⟨W0, hW⟩ : ∃ W0, W0 = (w.alloc (.cells #[.int .i64 kp, .string yp, .string mp, .string dp] 23)).alloc (.cells #[.int .i64 qS, .int .i64 qE] 42) := ⟨_, rfl⟩
  have K00 := Lib.hid (show Kp w W0 by rw [hW]; exact (Kp.alloc _ _).trans (Kp.alloc _ _))
  have HB := Lib.hid (fun w1 (k : Kp W0 w1) => show w1.cell? ⟨w.heap.size, 0, none⟩ = some (.int .i64 kp) ∧ w1.cell? ⟨w.heap.size, 1, none⟩ = some (.string yp) ∧ w1.cell? ⟨w.heap.size, 2, none⟩ = some (.string mp) ∧ w1.cell? ⟨w.heap.size, 3, none⟩ = some (.string dp) ∧ w1.cell? ⟨w.heap.size + 1, 0, none⟩ = some (.int .i64 qS) ∧ w1.cell? ⟨w.heap.size + 1, 1, none⟩ = some (.int .i64 qE) from ⟨cell_up k (show W0.cell? ⟨w.heap.size, 0, none⟩ = some (.int .i64 kp) by rw [hW]; simp), cell_up k (show W0.cell? ⟨w.heap.size, 1, none⟩ = some (.string yp) by rw [hW]; simp), cell_up k (show W0.cell? ⟨w.heap.size, 2, none⟩ = some (.string mp) by rw [hW]; simp), cell_up k (show W0.cell? ⟨w.heap.size, 3, none⟩ = some (.string dp) by rw [hW]; simp), cell_up k (show W0.cell? ⟨w.heap.size + 1, 0, none⟩ = some (.int .i64 qS) by rw [hW]; simp), cell_up k (show W0.cell? ⟨w.heap.size + 1, 1, none⟩ = some (.int .i64 qE) by rw [hW]; simp)⟩)
  obtain ⟨c0, c1, c2, c3, c4, c5⟩ := HB.out W0 (Kp.refl _)
  have K0 := Lib.hid (Kp.refl W0)
  have HW := Lib.hid hW
  clear hW
  go_enter Tryz.func5, Tryz.ntmps5
  go_wp2_with fail
  rw [← HW.out]
  refine (AW.out _ (K00.out.trans (by first | with_reducible exact K0.out | with_reducible exact K0.out.trans (Kp.alloc _ _) | with_reducible exact (K0.out.trans (Kp.alloc _ _)).trans (Kp.alloc _ _) | with_reducible exact ((K0.out.trans (Kp.alloc _ _)).trans (Kp.alloc _ _)).trans (Kp.alloc _ _) | with_reducible exact K0.out.trans (Kp.drew _) | with_reducible exact K0.out.trans (Kp.drewN _ _)))).mono ?_
  rintro e w1 ⟨rfl, kk⟩
  have K1 := Lib.hid ((show Kp W0 _ from (by first | with_reducible exact K0.out | with_reducible exact K0.out.trans (Kp.alloc _ _) | with_reducible exact (K0.out.trans (Kp.alloc _ _)).trans (Kp.alloc _ _) | with_reducible exact ((K0.out.trans (Kp.alloc _ _)).trans (Kp.alloc _ _)).trans (Kp.alloc _ _) | with_reducible exact K0.out.trans (Kp.drew _) | with_reducible exact K0.out.trans (Kp.drewN _ _))).trans kk)
  clear kk
  clear c0 c1 c2 c3 c4 c5
  obtain ⟨c0, c1, c2, c3, c4, c5⟩ := HB.out w1 K1.out
  go_wp2_with fail
  refine (TO.out _).mono ?_
  rintro e w2 ⟨rfl, kk⟩
  have K2 := Lib.hid ((show Kp W0 _ from (by first | with_reducible exact K1.out | with_reducible exact K1.out.trans (Kp.alloc _ _) | with_reducible exact (K1.out.trans (Kp.alloc _ _)).trans (Kp.alloc _ _) | with_reducible exact ((K1.out.trans (Kp.alloc _ _)).trans (Kp.alloc _ _)).trans (Kp.alloc _ _) | with_reducible exact K1.out.trans (Kp.drew _) | with_reducible exact K1.out.trans (Kp.drewN _ _))).trans kk)
  clear kk
  clear c0 c1 c2 c3 c4 c5
  obtain ⟨c0, c1, c2, c3, c4, c5⟩ := HB.out w2 K2.out
  obtain ⟨w3, hV⟩ : ∃ x, x = w2.alloc (.cells #[.int .i64 0, .int .i64 kp, .string yp, .string mp, .string dp, .bool ask, .bool false, .slice none 0 0] 26) := ⟨_, rfl⟩
  have ka : Kp w2 w3 := by rw [hV]; exact Kp.alloc _ _
  have hgq : w3.heap[w2.heap.size]? = some (.cells #[.int .i64 0, .int .i64 kp, .string yp, .string mp, .string dp, .bool ask, .bool false, .slice none 0 0] 26 (0, 0)) := by rw [hV]; exact heap_at _ _ _ rfl
  have q0 : w3.cell? ⟨w2.heap.size, 0, none⟩ = some (.int .i64 0) := by simp [World.cell?, hgq]
  have q1 : w3.cell? ⟨w2.heap.size, 1, none⟩ = some (.int .i64 kp) := by simp [World.cell?, hgq]
  have q2 : w3.cell? ⟨w2.heap.size, 2, none⟩ = some (.string yp) := by simp [World.cell?, hgq]
  have q3 : w3.cell? ⟨w2.heap.size, 3, none⟩ = some (.string mp) := by simp [World.cell?, hgq]
  have q4 : w3.cell? ⟨w2.heap.size, 4, none⟩ = some (.string dp) := by simp [World.cell?, hgq]
  have q5 : w3.cell? ⟨w2.heap.size, 5, none⟩ = some (.bool ask) := by simp [World.cell?, hgq]
  have q6 : w3.cell? ⟨w2.heap.size, 6, none⟩ = some (.bool false) := by simp [World.cell?, hgq]
  have q7 : w3.cell? ⟨w2.heap.size, 7, none⟩ = some (.slice none 0 0) := by simp [World.cell?, hgq]
  have HB2 := Lib.hid (fun w1 (k : Kp w3 w1) => show w1.cell? ⟨w.heap.size, 0, none⟩ = some (.int .i64 kp) ∧ w1.cell? ⟨w.heap.size, 1, none⟩ = some (.string yp) ∧ w1.cell? ⟨w.heap.size, 2, none⟩ = some (.string mp) ∧ w1.cell? ⟨w.heap.size, 3, none⟩ = some (.string dp) ∧ w1.cell? ⟨w.heap.size + 1, 0, none⟩ = some (.int .i64 qS) ∧ w1.cell? ⟨w.heap.size + 1, 1, none⟩ = some (.int .i64 qE) ∧ w1.cell? ⟨w2.heap.size, 0, none⟩ = some (.int .i64 0) ∧ w1.cell? ⟨w2.heap.size, 1, none⟩ = some (.int .i64 kp) ∧ w1.cell? ⟨w2.heap.size, 2, none⟩ = some (.string yp) ∧ w1.cell? ⟨w2.heap.size, 3, none⟩ = some (.string mp) ∧ w1.cell? ⟨w2.heap.size, 4, none⟩ = some (.string dp) ∧ w1.cell? ⟨w2.heap.size, 5, none⟩ = some (.bool ask) ∧ w1.cell? ⟨w2.heap.size, 6, none⟩ = some (.bool false) ∧ w1.cell? ⟨w2.heap.size, 7, none⟩ = some (.slice none 0 0) from ⟨(HB.out w1 (K2.out.trans (ka.trans k))).1, (HB.out w1 (K2.out.trans (ka.trans k))).2.1, (HB.out w1 (K2.out.trans (ka.trans k))).2.2.1, (HB.out w1 (K2.out.trans (ka.trans k))).2.2.2.1, (HB.out w1 (K2.out.trans (ka.trans k))).2.2.2.2.1, (HB.out w1 (K2.out.trans (ka.trans k))).2.2.2.2.2, cell_up k q0, cell_up k q1, cell_up k q2, cell_up k q3, cell_up k q4, cell_up k q5, cell_up k q6, cell_up k q7⟩)
  have K01 := Lib.hid (K00.out.trans (K2.out.trans ka))
  clear HB K00 hgq c0 c1 c2 c3 c4 c5 q0 q1 q2 q3 q4 q5 q6 q7
  have HB := HB2
  have K00 := K01
  clear HB2 K01
  have K3 := Lib.hid (Kp.refl w3)
  have Hw3 := Lib.hid hV
  clear hV ka
  go_wp2_with fail
  rw [← Hw3.out]
  obtain ⟨c0, c1, c2, c3, c4, c5, c6, c7, c8, c9, c10, c11, c12, c13⟩ := HB.out w3 (Kp.refl _)
  go_wp2_with fail
  refine (SM.out _).mono ?_
  rintro e w4 ⟨⟨b, hb, rfl⟩, kk⟩
  have K4 := Lib.hid ((show Kp w3 _ from (by first | with_reducible exact K3.out | with_reducible exact K3.out.trans (Kp.alloc _ _) | with_reducible exact (K3.out.trans (Kp.alloc _ _)).trans (Kp.alloc _ _) | with_reducible exact ((K3.out.trans (Kp.alloc _ _)).trans (Kp.alloc _ _)).trans (Kp.alloc _ _) | with_reducible exact K3.out.trans (Kp.drew _) | with_reducible exact K3.out.trans (Kp.drewN _ _))).trans kk)
  clear kk c0 c1 c2 c3 c4 c5 c6 c7 c8 c9 c10 c11 c12 c13
  obtain ⟨c0, c1, c2, c3, c4, c5, c6, c7, c8, c9, c10, c11, c12, c13⟩ := HB.out w4 K4.out
  rcases hb with rfl | rfl
  rotate_left
  · go_wp2
    go_ret
    exact ⟨rfl, K00.out.trans K4.out⟩
  go_wp2_with fail
  refine (FW.out _).mono ?_
  rintro e w5 ⟨rfl, kk⟩
  have K5 := Lib.hid ((show Kp w3 _ from (by first | with_reducible exact K4.out | with_reducible exact K4.out.trans (Kp.alloc _ _) | with_reducible exact (K4.out.trans (Kp.alloc _ _)).trans (Kp.alloc _ _) | with_reducible exact ((K4.out.trans (Kp.alloc _ _)).trans (Kp.alloc _ _)).trans (Kp.alloc _ _) | with_reducible exact K4.out.trans (Kp.drew _) | with_reducible exact K4.out.trans (Kp.drewN _ _))).trans kk)
  clear kk
  clear c0 c1 c2 c3 c4 c5 c6 c7 c8 c9 c10 c11 c12 c13
  obtain ⟨c0, c1, c2, c3, c4, c5, c6, c7, c8, c9, c10, c11, c12, c13⟩ := HB.out w5 K5.out
  cases fb with
  | false =>
    go_wp2
    go_ret
    exact ⟨rfl, K00.out.trans K5.out⟩
  | true =>
    go_wp2_with fail
    refine (SN.out _ (K00.out.trans (by first | with_reducible exact K5.out | with_reducible exact K5.out.trans (Kp.alloc _ _) | with_reducible exact (K5.out.trans (Kp.alloc _ _)).trans (Kp.alloc _ _) | with_reducible exact ((K5.out.trans (Kp.alloc _ _)).trans (Kp.alloc _ _)).trans (Kp.alloc _ _) | with_reducible exact K5.out.trans (Kp.drew _) | with_reducible exact K5.out.trans (Kp.drewN _ _)))).mono ?_
    rintro e w6 ⟨rfl, kk⟩
    have K6 := Lib.hid ((show Kp w3 _ from (by first | with_reducible exact K5.out | with_reducible exact K5.out.trans (Kp.alloc _ _) | with_reducible exact (K5.out.trans (Kp.alloc _ _)).trans (Kp.alloc _ _) | with_reducible exact ((K5.out.trans (Kp.alloc _ _)).trans (Kp.alloc _ _)).trans (Kp.alloc _ _) | with_reducible exact K5.out.trans (Kp.drew _) | with_reducible exact K5.out.trans (Kp.drewN _ _))).trans kk)
    clear kk
    clear c0 c1 c2 c3 c4 c5 c6 c7 c8 c9 c10 c11 c12 c13
    obtain ⟨c0, c1, c2, c3, c4, c5, c6, c7, c8, c9, c10, c11, c12, c13⟩ := HB.out w6 K6.out
    go_wp2_with fail
    refine (OF.out _ (K00.out.trans (by first | with_reducible exact K6.out | with_reducible exact K6.out.trans (Kp.alloc _ _) | with_reducible exact (K6.out.trans (Kp.alloc _ _)).trans (Kp.alloc _ _) | with_reducible exact ((K6.out.trans (Kp.alloc _ _)).trans (Kp.alloc _ _)).trans (Kp.alloc _ _) | with_reducible exact K6.out.trans (Kp.drew _) | with_reducible exact K6.out.trans (Kp.drewN _ _)))).mono ?_
    rintro e w7 ⟨v7, rfl, h7, kk⟩
    have K7 := Lib.hid ((show Kp w3 _ from (by first | with_reducible exact K6.out | with_reducible exact K6.out.trans (Kp.alloc _ _) | with_reducible exact (K6.out.trans (Kp.alloc _ _)).trans (Kp.alloc _ _) | with_reducible exact ((K6.out.trans (Kp.alloc _ _)).trans (Kp.alloc _ _)).trans (Kp.alloc _ _) | with_reducible exact K6.out.trans (Kp.drew _) | with_reducible exact K6.out.trans (Kp.drewN _ _))).trans kk)
    have LV := Lib.hid h7
    obtain ⟨ad7, cp7, rfl⟩ := h7.slice
    clear kk h7
    clear c0 c1 c2 c3 c4 c5 c6 c7 c8 c9 c10 c11 c12 c13
    obtain ⟨c0, c1, c2, c3, c4, c5, c6, c7, c8, c9, c10, c11, c12, c13⟩ := HB.out w7 K7.out
    go_wp2_with fail
    refine (PS.out _ (K00.out.trans (by first | with_reducible exact K7.out | with_reducible exact K7.out.trans (Kp.alloc _ _) | with_reducible exact (K7.out.trans (Kp.alloc _ _)).trans (Kp.alloc _ _) | with_reducible exact ((K7.out.trans (Kp.alloc _ _)).trans (Kp.alloc _ _)).trans (Kp.alloc _ _) | with_reducible exact K7.out.trans (Kp.drew _) | with_reducible exact K7.out.trans (Kp.drewN _ _)))).mono ?_
    rintro e w8 ⟨v8, rfl, own8, kk⟩
    have K8 := Lib.hid ((show Kp w3 _ from (by first | with_reducible exact K7.out | with_reducible exact K7.out.trans (Kp.alloc _ _) | with_reducible exact (K7.out.trans (Kp.alloc _ _)).trans (Kp.alloc _ _) | with_reducible exact ((K7.out.trans (Kp.alloc _ _)).trans (Kp.alloc _ _)).trans (Kp.alloc _ _) | with_reducible exact K7.out.trans (Kp.drew _) | with_reducible exact K7.out.trans (Kp.drewN _ _))).trans kk)
    have LV8 := Lib.hid (LV.out.kp kk)
    have RU := Lib.hid (runsAt_own own8)
    obtain ⟨ad8, cp8, rfl⟩ := own_slice own8
    clear kk own8
    clear c0 c1 c2 c3 c4 c5 c6 c7 c8 c9 c10 c11 c12 c13
    obtain ⟨c0, c1, c2, c3, c4, c5, c6, c7, c8, c9, c10, c11, c12, c13⟩ := HB.out w8 K8.out
    go_wp2_with fail
    refine (TO2.out _).mono ?_
    rintro e w9 ⟨rfl, kk⟩
    have K9 := Lib.hid ((show Kp w3 _ from (by first | with_reducible exact K8.out | with_reducible exact K8.out.trans (Kp.alloc _ _) | with_reducible exact (K8.out.trans (Kp.alloc _ _)).trans (Kp.alloc _ _) | with_reducible exact ((K8.out.trans (Kp.alloc _ _)).trans (Kp.alloc _ _)).trans (Kp.alloc _ _) | with_reducible exact K8.out.trans (Kp.drew _) | with_reducible exact K8.out.trans (Kp.drewN _ _))).trans kk)
    have LV9 := Lib.hid (LV8.out.kp kk)
    have RU9 := Lib.hid (RU.out.kp kk)
    clear kk
    clear c0 c1 c2 c3 c4 c5 c6 c7 c8 c9 c10 c11 c12 c13
    obtain ⟨c0, c1, c2, c3, c4, c5, c6, c7, c8, c9, c10, c11, c12, c13⟩ := HB.out w9 K9.out
    go_wp2_with fail
    refine (OG.out _ (K00.out.trans (by first | with_reducible exact K9.out | with_reducible exact K9.out.trans (Kp.alloc _ _) | with_reducible exact (K9.out.trans (Kp.alloc _ _)).trans (Kp.alloc _ _) | with_reducible exact ((K9.out.trans (Kp.alloc _ _)).trans (Kp.alloc _ _)).trans (Kp.alloc _ _) | with_reducible exact K9.out.trans (Kp.drew _) | with_reducible exact K9.out.trans (Kp.drewN _ _)))).mono ?_
    rintro e w10 ⟨va, rfl, ha, kk⟩
    have K10 := Lib.hid ((show Kp w3 _ from (by first | with_reducible exact K9.out | with_reducible exact K9.out.trans (Kp.alloc _ _) | with_reducible exact (K9.out.trans (Kp.alloc _ _)).trans (Kp.alloc _ _) | with_reducible exact ((K9.out.trans (Kp.alloc _ _)).trans (Kp.alloc _ _)).trans (Kp.alloc _ _) | with_reducible exact K9.out.trans (Kp.drew _) | with_reducible exact K9.out.trans (Kp.drewN _ _))).trans kk)
    have LVB := Lib.hid (LV9.out.kp kk)
    have RUB := Lib.hid (RU9.out.kp kk)
    obtain ⟨ada, cpa, rfl⟩ := ha.slice
    clear kk ha
    clear c0 c1 c2 c3 c4 c5 c6 c7 c8 c9 c10 c11 c12 c13
    obtain ⟨c0, c1, c2, c3, c4, c5, c6, c7, c8, c9, c10, c11, c12, c13⟩ := HB.out w10 K10.out
    have KS := Lib.hid (fun w' (kq : Kp w10 w') => show w'.cell? ⟨w.heap.size, 0, none⟩ = some (.int .i64 kp) ∧ w'.cell? ⟨w.heap.size, 1, none⟩ = some (.string yp) ∧ w'.cell? ⟨w.heap.size, 2, none⟩ = some (.string mp) ∧ w'.cell? ⟨w.heap.size, 3, none⟩ = some (.string dp) ∧ w'.cell? ⟨w.heap.size + 1, 0, none⟩ = some (.int .i64 qS) ∧ w'.cell? ⟨w.heap.size + 1, 1, none⟩ = some (.int .i64 qE) ∧ w'.cell? ⟨w2.heap.size, 0, none⟩ = some (.int .i64 0) ∧ w'.cell? ⟨w2.heap.size, 1, none⟩ = some (.int .i64 kp) ∧ w'.cell? ⟨w2.heap.size, 2, none⟩ = some (.string yp) ∧ w'.cell? ⟨w2.heap.size, 3, none⟩ = some (.string mp) ∧ w'.cell? ⟨w2.heap.size, 4, none⟩ = some (.string dp) ∧ w'.cell? ⟨w2.heap.size, 5, none⟩ = some (.bool ask) ∧ w'.cell? ⟨w2.heap.size, 6, none⟩ = some (.bool false) ∧ w'.cell? ⟨w2.heap.size, 7, none⟩ = some (.slice none 0 0) ∧ Kp w10 w' from ⟨(HB.out w' (K10.out.trans kq)).1, (HB.out w' (K10.out.trans kq)).2.1, (HB.out w' (K10.out.trans kq)).2.2.1, (HB.out w' (K10.out.trans kq)).2.2.2.1, (HB.out w' (K10.out.trans kq)).2.2.2.2.1, (HB.out w' (K10.out.trans kq)).2.2.2.2.2.1, (HB.out w' (K10.out.trans kq)).2.2.2.2.2.2.1, (HB.out w' (K10.out.trans kq)).2.2.2.2.2.2.2.1, (HB.out w' (K10.out.trans kq)).2.2.2.2.2.2.2.2.1, (HB.out w' (K10.out.trans kq)).2.2.2.2.2.2.2.2.2.1, (HB.out w' (K10.out.trans kq)).2.2.2.2.2.2.2.2.2.2.1, (HB.out w' (K10.out.trans kq)).2.2.2.2.2.2.2.2.2.2.2.1, (HB.out w' (K10.out.trans kq)).2.2.2.2.2.2.2.2.2.2.2.2.1, (HB.out w' (K10.out.trans kq)).2.2.2.2.2.2.2.2.2.2.2.2.2, kq⟩)
    go_wp2_with fail
    refine wp_region_held_drew (S := fun w' => w'.cell? ⟨w.heap.size, 0, none⟩ = some (.int .i64 kp) ∧ w'.cell? ⟨w.heap.size, 1, none⟩ = some (.string yp) ∧ w'.cell? ⟨w.heap.size, 2, none⟩ = some (.string mp) ∧ w'.cell? ⟨w.heap.size, 3, none⟩ = some (.string dp) ∧ w'.cell? ⟨w.heap.size + 1, 0, none⟩ = some (.int .i64 qS) ∧ w'.cell? ⟨w.heap.size + 1, 1, none⟩ = some (.int .i64 qE) ∧ w'.cell? ⟨w2.heap.size, 0, none⟩ = some (.int .i64 0) ∧ w'.cell? ⟨w2.heap.size, 1, none⟩ = some (.int .i64 kp) ∧ w'.cell? ⟨w2.heap.size, 2, none⟩ = some (.string yp) ∧ w'.cell? ⟨w2.heap.size, 3, none⟩ = some (.string mp) ∧ w'.cell? ⟨w2.heap.size, 4, none⟩ = some (.string dp) ∧ w'.cell? ⟨w2.heap.size, 5, none⟩ = some (.bool ask) ∧ w'.cell? ⟨w2.heap.size, 6, none⟩ = some (.bool false) ∧ w'.cell? ⟨w2.heap.size, 7, none⟩ = some (.slice none 0 0) ∧ Kp w10 w') (by kernel_rfl) ?_ (fun hHeld0 => ?_)
    · (try dsimp only); exact KS.out _ (by first | assumption | exact Kp.drew _)
    refine tkW (v := ?_) 0 ptA0 rfl (by kernel_rfl) (by kernel_rfl) (by kernel_rfl) (fun _ _ _ h => h) (by rfl) ?_ (by assumption) ?_
    rotate_left
    · intro w hSw; (try dsimp only at hSw); go_simp; (try with_reducible rfl)
    (try simp only [Act.put, ptA0, List.setIfInBounds_toArray, List.set_cons_zero, List.set_cons_succ])
    refine tkW (v := ?_) 1 ptA1 rfl (by kernel_rfl) (by kernel_rfl) (by kernel_rfl) (fun _ _ _ h => h) (by rfl) ?_ (by assumption) ?_
    rotate_left
    · intro w hSw; (try dsimp only at hSw); go_simp; (try with_reducible rfl)
    (try simp only [Act.put, ptA1, List.setIfInBounds_toArray, List.set_cons_zero, List.set_cons_succ])
    refine tkW (v := ?_) 2 ptA2 rfl (by kernel_rfl) (by kernel_rfl) (by kernel_rfl) (fun _ _ _ h => h) (by rfl) ?_ (by assumption) ?_
    rotate_left
    · intro w hSw; (try dsimp only at hSw); go_simp; (try with_reducible rfl)
    (try simp only [Act.put, ptA2, List.setIfInBounds_toArray, List.set_cons_zero, List.set_cons_succ])
    refine tkW (v := ?_) 3 ptA3 rfl (by kernel_rfl) (by kernel_rfl) (by kernel_rfl) (fun _ _ _ h => h) (by rfl) ?_ (by assumption) ?_
    rotate_left
    · intro w hSw; (try dsimp only at hSw); go_simp; (try with_reducible rfl)
    (try simp only [Act.put, ptA3, List.setIfInBounds_toArray, List.set_cons_zero, List.set_cons_succ])
    refine tkW (v := ?_) 4 ptA4 rfl (by kernel_rfl) (by kernel_rfl) (by kernel_rfl) (fun _ _ _ h => h) (by rfl) ?_ (by assumption) ?_
    rotate_left
    · intro w hSw; (try dsimp only at hSw); go_simp; (try with_reducible rfl)
    (try simp only [Act.put, ptA4, List.setIfInBounds_toArray, List.set_cons_zero, List.set_cons_succ])
    refine tkW (v := ?_) 5 ptA5 rfl (by kernel_rfl) (by kernel_rfl) (by kernel_rfl) (fun _ _ _ h => h) (by rfl) ?_ (by assumption) ?_
    rotate_left
    · intro w hSw; (try dsimp only at hSw); go_simp; (try with_reducible rfl)
    (try simp only [Act.put, ptA5, List.setIfInBounds_toArray, List.set_cons_zero, List.set_cons_succ])
    refine tkW (v := ?_) 6 ptA6 rfl (by kernel_rfl) (by kernel_rfl) (by kernel_rfl) (fun _ _ _ h => h) (by rfl) ?_ (by assumption) ?_
    rotate_left
    · intro w hSw; (try dsimp only at hSw); go_simp; (try with_reducible rfl)
    (try simp only [Act.put, ptA6, List.setIfInBounds_toArray, List.set_cons_zero, List.set_cons_succ])
    refine tkW (v := ?_) 7 ptA7 rfl (by kernel_rfl) (by kernel_rfl) (by kernel_rfl) (fun _ _ _ h => h) (by rfl) ?_ (by assumption) ?_
    rotate_left
    · intro w hSw; (try dsimp only at hSw); go_simp; (try with_reducible rfl)
    (try simp only [Act.put, ptA7, List.setIfInBounds_toArray, List.set_cons_zero, List.set_cons_succ])
    refine tkW (v := ?_) 8 ptA8 rfl (by kernel_rfl) (by kernel_rfl) (by kernel_rfl) (fun _ _ _ h => h) (by rfl) ?_ (by assumption) ?_
    rotate_left
    · intro w hSw; (try dsimp only at hSw); go_simp; (try with_reducible rfl)
    (try simp only [Act.put, ptA8, List.setIfInBounds_toArray, List.set_cons_zero, List.set_cons_succ])
    refine tkW (v := ?_) 9 ptA9 rfl (by kernel_rfl) (by kernel_rfl) (by kernel_rfl) (fun _ _ _ h => h) (by rfl) ?_ (by assumption) ?_
    rotate_left
    · intro w hSw; (try dsimp only at hSw); go_simp; (try with_reducible rfl)
    (try simp only [Act.put, ptA9, List.setIfInBounds_toArray, List.set_cons_zero, List.set_cons_succ])
    refine tkW (v := ?_) 10 ptA10 rfl (by kernel_rfl) (by kernel_rfl) (by kernel_rfl) (fun _ _ _ h => h) (by rfl) ?_ (by assumption) ?_
    rotate_left
    · intro w hSw; (try dsimp only at hSw); go_simp; (try with_reducible rfl)
    (try simp only [Act.put, ptA10, List.setIfInBounds_toArray, List.set_cons_zero, List.set_cons_succ])
    refine tkW (v := ?_) 11 ptA11 rfl (by kernel_rfl) (by kernel_rfl) (by kernel_rfl) (fun _ _ _ h => h) (by rfl) ?_ (by assumption) ?_
    rotate_left
    · intro w hSw; (try dsimp only at hSw); go_simp; (try with_reducible rfl)
    (try simp only [Act.put, ptA11, List.setIfInBounds_toArray, List.set_cons_zero, List.set_cons_succ])
    refine tkW (v := ?_) 12 ptA12 rfl (by kernel_rfl) (by kernel_rfl) (by kernel_rfl) (fun _ _ _ h => h) (by rfl) ?_ (by assumption) ?_
    rotate_left
    · intro w hSw; (try dsimp only at hSw); go_simp; (try with_reducible rfl)
    (try simp only [Act.put, ptA12, List.setIfInBounds_toArray, List.set_cons_zero, List.set_cons_succ])
    refine tkW (v := ?_) 13 ptA13 rfl (by kernel_rfl) (by kernel_rfl) (by kernel_rfl) (fun _ _ _ h => h) (by rfl) ?_ (by assumption) ?_
    rotate_left
    · intro w hSw; (try dsimp only at hSw); go_simp; (try with_reducible rfl)
    (try simp only [Act.put, ptA13, List.setIfInBounds_toArray, List.set_cons_zero, List.set_cons_succ])
    refine tkW (v := ?_) 14 ptA14 rfl (by kernel_rfl) (by kernel_rfl) (by kernel_rfl) (fun _ _ _ h => h) (by rfl) ?_ (by assumption) ?_
    rotate_left
    · intro w hSw; (try dsimp only at hSw); go_simp; (try with_reducible rfl)
    (try simp only [Act.put, ptA14, List.setIfInBounds_toArray, List.set_cons_zero, List.set_cons_succ])
    refine tkW (v := ?_) 15 ptA15 rfl (by kernel_rfl) (by kernel_rfl) (by kernel_rfl) (fun _ _ _ h => h) (by rfl) ?_ (by assumption) ?_
    rotate_left
    · intro w hSw; (try dsimp only at hSw); go_simp; (try with_reducible rfl)
    (try simp only [Act.put, ptA15, List.setIfInBounds_toArray, List.set_cons_zero, List.set_cons_succ])
    refine tkW (v := ?_) 17 ptA17 rfl (by kernel_rfl) (by kernel_rfl) (by kernel_rfl) (fun _ _ _ h => h) (by rfl) ?_ (by assumption) ?_
    rotate_left
    · intro w hSw; (try dsimp only at hSw); go_simp; (try with_reducible rfl)
    (try simp only [Act.put, ptA17, List.setIfInBounds_toArray, List.set_cons_zero, List.set_cons_succ])
    refine tkW (v := ?_) 18 ptA18 rfl (by kernel_rfl) (by kernel_rfl) (by kernel_rfl) (fun _ _ _ h => h) (by rfl) ?_ (by assumption) ?_
    rotate_left
    · intro w hSw; (try dsimp only at hSw); go_simp; (try with_reducible rfl)
    (try simp only [Act.put, ptA18, List.setIfInBounds_toArray, List.set_cons_zero, List.set_cons_succ])
    refine tkW (v := ?_) 19 ptA19 rfl (by kernel_rfl) (by kernel_rfl) (by kernel_rfl) (fun _ _ _ h => h) (by rfl) ?_ (by assumption) ?_
    rotate_left
    · intro w hSw; (try dsimp only at hSw); go_simp; (try with_reducible rfl)
    (try simp only [Act.put, ptA19, List.setIfInBounds_toArray, List.set_cons_zero, List.set_cons_succ])
    refine tkW (v := ?_) 20 ptA20 rfl (by kernel_rfl) (by kernel_rfl) (by kernel_rfl) (fun _ _ _ h => h) (by rfl) ?_ (by assumption) ?_
    rotate_left
    · intro w hSw; (try dsimp only at hSw); go_simp; (try with_reducible rfl)
    (try simp only [Act.put, ptA20, List.setIfInBounds_toArray, List.set_cons_zero, List.set_cons_succ])
    refine tkW (v := ?_) 21 ptA21 rfl (by kernel_rfl) (by kernel_rfl) (by kernel_rfl) (fun _ _ _ h => h) (by rfl) ?_ (by assumption) ?_
    rotate_left
    · intro w hSw; (try dsimp only at hSw); go_simp; (try with_reducible rfl)
    (try simp only [Act.put, ptA21, List.setIfInBounds_toArray, List.set_cons_zero, List.set_cons_succ])
    refine tkE 16 ptA16 rfl (by kernel_rfl) (fun K hK => ?_)
    go_simp
    (refine (HC.out _ _ (LVB.out.kp (by first | assumption | exact Kp.drew _)) (K00.out.trans (K10.out.trans (by first | assumption | exact Kp.drew _)))).mono ?_; rintro e wx ⟨rfl, k1⟩; have k2 := Kp.trans (show Kp w10 _ from (by first | assumption | exact Kp.drew _)) k1; clear k1)
    (try go_wp2_with fail)
    refine hK.out _ _ ?_ (fun hHeld1 => ?_)
    · (try dsimp only); exact KS.out _ (by first | assumption | exact Kp.drew _)
    clear hK K hHeld0
    (try simp only [Act.put, ptA16, List.setIfInBounds_toArray, List.set_cons_zero, List.set_cons_succ])
    refine tkE 22 ptA22 rfl (by kernel_rfl) (fun K hK => ?_)
    go_simp
    (refine (LH.out _ _ _ (RUB.out.kp (by first | assumption | exact Kp.drew _)) (K00.out.trans (K10.out.trans (by first | assumption | exact Kp.drew _)))).mono ?_; rintro e wy ⟨rfl, k1⟩; have k2 := Kp.trans (show Kp w10 _ from (by first | assumption | exact Kp.drew _)) k1; clear k1)
    (try go_wp2_with fail)
    refine hK.out _ _ ?_ (fun hHeld2 => ?_)
    · (try dsimp only); exact KS.out _ (by first | assumption | exact Kp.drew _)
    clear hK K hHeld1
    (try simp only [Act.put, ptA22, List.setIfInBounds_toArray, List.set_cons_zero, List.set_cons_succ])
    refine tkW (v := ?_) 23 ptA23 rfl (by kernel_rfl) (by kernel_rfl) (by kernel_rfl) (fun _ _ _ h => h) (by rfl) ?_ (by assumption) ?_
    rotate_left
    · intro w hSw; (try dsimp only at hSw); go_simp; (try with_reducible rfl)
    (try simp only [Act.put, ptA23, List.setIfInBounds_toArray, List.set_cons_zero, List.set_cons_succ])
    refine tkW (v := ?_) 24 ptA24 rfl (by kernel_rfl) (by kernel_rfl) (by kernel_rfl) (fun _ _ _ h => h) (by rfl) ?_ (by assumption) ?_
    rotate_left
    · intro w hSw; (try dsimp only at hSw); go_simp; (try with_reducible rfl)
    (try simp only [Act.put, ptA24, List.setIfInBounds_toArray, List.set_cons_zero, List.set_cons_succ])
    refine tkW (v := ?_) 25 ptA25 rfl (by kernel_rfl) (by kernel_rfl) (by kernel_rfl) (fun _ _ _ h => h) (by rfl) ?_ (by assumption) ?_
    rotate_left
    · intro w hSw; (try dsimp only at hSw); go_simp; (try with_reducible rfl)
    (try simp only [Act.put, ptA25, List.setIfInBounds_toArray, List.set_cons_zero, List.set_cons_succ])
    refine tkW (v := ?_) 26 ptA26 rfl (by kernel_rfl) (by kernel_rfl) (by kernel_rfl) (fun _ _ _ h => h) (by rfl) ?_ (by assumption) ?_
    rotate_left
    · intro w hSw; (try dsimp only at hSw); go_simp; (try with_reducible rfl)
    (try simp only [Act.put, ptA26, List.setIfInBounds_toArray, List.set_cons_zero, List.set_cons_succ])
    refine tkW (v := ?_) 27 ptA27 rfl (by kernel_rfl) (by kernel_rfl) (by kernel_rfl) (fun _ _ _ h => h) (by rfl) ?_ (by assumption) ?_
    rotate_left
    · intro w hSw; (try dsimp only at hSw); go_simp; (try with_reducible rfl)
    (try simp only [Act.put, ptA27, List.setIfInBounds_toArray, List.set_cons_zero, List.set_cons_succ])
    refine wpAnyH_done (by kernel_rfl) ?_ _
    go_wp2
    go_ret
    exact ⟨rfl, K00.out.trans (K10.out.trans k2)⟩
set_option maxHeartbeats 16000000 in
set_option maxRecDepth 100000 in
theorem dpoint_no_t (p : PT) (ask : Bool)  (qS qE : Int) (w : World) (hp1 : -9223372036854775808 ≤ p.k) (hp2 : p.k ≤ 9223372036854775807) (hq1 : -9223372036854775808 ≤ qS) (hq2 : qS ≤ 9223372036854775807) (hq3 : -9223372036854775808 ≤ qE) (hq4 : qE ≤ 9223372036854775807) (T : Tabs8 w) (hs : saneP p = false) :
    Calls Tryz.prog 5 #[ptV p, .bool ask, .bool true, .agg #[.int .i64 qS, .int .i64 qE]] w fun e w' => e = .returned (.bool true) ∧ Kp w w' := by
  have AW := Lib.hid (fun w1 (kk : Kp w w1) => awake15 w1 (T.kp kk))
  have TO := Lib.hid (fun w1 => of_node_any p ask true w1)
  have SM := Lib.hid (fun w1 => small_any (.mk 0 p ask true [] : ND) (.slice none 0 0) w1 (.none none 0))
  have FW := Lib.hid (fun w1 => rfewG_any (.mk 0 p ask true [] : ND) (.slice none 0 0) w1 (.none none 0))
  have SN := Lib.hid (fun w1 (kk : Kp w w1) => tSaneG_any (.mk 0 p ask true [] : ND) (.slice none 0 0) w1 (.none none 0) (T.kp kk).2.1)
  rw [sane_pt] at SN
  generalize fewG (.mk 0 p ask true [] : ND) = fb at *
  rw [hs] at SN
  clear hs T
  obtain ⟨kp, yp, mp, dp⟩ := p
  unfold ptV at *
  simp only at *
  unfold ndV at *
  simp only [ND.k, ND.p, ND.a, ND.t, ND.l] at *
  obtain ⟨W0, hW⟩ : ∃ W0, W0 = (w.alloc (.cells #[.int .i64 kp, .string yp, .string mp, .string dp] 23)).alloc (.cells #[.int .i64 qS, .int .i64 qE] 42) := ⟨_, rfl⟩
  have K00 := Lib.hid (show Kp w W0 by rw [hW]; exact (Kp.alloc _ _).trans (Kp.alloc _ _))
  have HB := Lib.hid (fun w1 (k : Kp W0 w1) => show w1.cell? ⟨w.heap.size, 0, none⟩ = some (.int .i64 kp) ∧ w1.cell? ⟨w.heap.size, 1, none⟩ = some (.string yp) ∧ w1.cell? ⟨w.heap.size, 2, none⟩ = some (.string mp) ∧ w1.cell? ⟨w.heap.size, 3, none⟩ = some (.string dp) ∧ w1.cell? ⟨w.heap.size + 1, 0, none⟩ = some (.int .i64 qS) ∧ w1.cell? ⟨w.heap.size + 1, 1, none⟩ = some (.int .i64 qE) from ⟨cell_up k (show W0.cell? ⟨w.heap.size, 0, none⟩ = some (.int .i64 kp) by rw [hW]; simp), cell_up k (show W0.cell? ⟨w.heap.size, 1, none⟩ = some (.string yp) by rw [hW]; simp), cell_up k (show W0.cell? ⟨w.heap.size, 2, none⟩ = some (.string mp) by rw [hW]; simp), cell_up k (show W0.cell? ⟨w.heap.size, 3, none⟩ = some (.string dp) by rw [hW]; simp), cell_up k (show W0.cell? ⟨w.heap.size + 1, 0, none⟩ = some (.int .i64 qS) by rw [hW]; simp), cell_up k (show W0.cell? ⟨w.heap.size + 1, 1, none⟩ = some (.int .i64 qE) by rw [hW]; simp)⟩)
  obtain ⟨c0, c1, c2, c3, c4, c5⟩ := HB.out W0 (Kp.refl _)
  have K0 := Lib.hid (Kp.refl W0)
  have HW := Lib.hid hW
  clear hW
  go_enter Tryz.func5, Tryz.ntmps5
  go_wp2_with fail
  rw [← HW.out]
  refine (AW.out _ (K00.out.trans (by first | with_reducible exact K0.out | with_reducible exact K0.out.trans (Kp.alloc _ _) | with_reducible exact (K0.out.trans (Kp.alloc _ _)).trans (Kp.alloc _ _) | with_reducible exact ((K0.out.trans (Kp.alloc _ _)).trans (Kp.alloc _ _)).trans (Kp.alloc _ _) | with_reducible exact K0.out.trans (Kp.drew _) | with_reducible exact K0.out.trans (Kp.drewN _ _)))).mono ?_
  rintro e w1 ⟨rfl, kk⟩
  have K1 := Lib.hid ((show Kp W0 _ from (by first | with_reducible exact K0.out | with_reducible exact K0.out.trans (Kp.alloc _ _) | with_reducible exact (K0.out.trans (Kp.alloc _ _)).trans (Kp.alloc _ _) | with_reducible exact ((K0.out.trans (Kp.alloc _ _)).trans (Kp.alloc _ _)).trans (Kp.alloc _ _) | with_reducible exact K0.out.trans (Kp.drew _) | with_reducible exact K0.out.trans (Kp.drewN _ _))).trans kk)
  clear kk
  clear c0 c1 c2 c3 c4 c5
  obtain ⟨c0, c1, c2, c3, c4, c5⟩ := HB.out w1 K1.out
  go_wp2_with fail
  refine (TO.out _).mono ?_
  rintro e w2 ⟨rfl, kk⟩
  have K2 := Lib.hid ((show Kp W0 _ from (by first | with_reducible exact K1.out | with_reducible exact K1.out.trans (Kp.alloc _ _) | with_reducible exact (K1.out.trans (Kp.alloc _ _)).trans (Kp.alloc _ _) | with_reducible exact ((K1.out.trans (Kp.alloc _ _)).trans (Kp.alloc _ _)).trans (Kp.alloc _ _) | with_reducible exact K1.out.trans (Kp.drew _) | with_reducible exact K1.out.trans (Kp.drewN _ _))).trans kk)
  clear kk
  clear c0 c1 c2 c3 c4 c5
  obtain ⟨c0, c1, c2, c3, c4, c5⟩ := HB.out w2 K2.out
  obtain ⟨w3, hV⟩ : ∃ x, x = w2.alloc (.cells #[.int .i64 0, .int .i64 kp, .string yp, .string mp, .string dp, .bool ask, .bool true, .slice none 0 0] 26) := ⟨_, rfl⟩
  have ka : Kp w2 w3 := by rw [hV]; exact Kp.alloc _ _
  have hgq : w3.heap[w2.heap.size]? = some (.cells #[.int .i64 0, .int .i64 kp, .string yp, .string mp, .string dp, .bool ask, .bool true, .slice none 0 0] 26 (0, 0)) := by rw [hV]; exact heap_at _ _ _ rfl
  have q0 : w3.cell? ⟨w2.heap.size, 0, none⟩ = some (.int .i64 0) := by simp [World.cell?, hgq]
  have q1 : w3.cell? ⟨w2.heap.size, 1, none⟩ = some (.int .i64 kp) := by simp [World.cell?, hgq]
  have q2 : w3.cell? ⟨w2.heap.size, 2, none⟩ = some (.string yp) := by simp [World.cell?, hgq]
  have q3 : w3.cell? ⟨w2.heap.size, 3, none⟩ = some (.string mp) := by simp [World.cell?, hgq]
  have q4 : w3.cell? ⟨w2.heap.size, 4, none⟩ = some (.string dp) := by simp [World.cell?, hgq]
  have q5 : w3.cell? ⟨w2.heap.size, 5, none⟩ = some (.bool ask) := by simp [World.cell?, hgq]
  have q6 : w3.cell? ⟨w2.heap.size, 6, none⟩ = some (.bool true) := by simp [World.cell?, hgq]
  have q7 : w3.cell? ⟨w2.heap.size, 7, none⟩ = some (.slice none 0 0) := by simp [World.cell?, hgq]
  have HB2 := Lib.hid (fun w1 (k : Kp w3 w1) => show w1.cell? ⟨w.heap.size, 0, none⟩ = some (.int .i64 kp) ∧ w1.cell? ⟨w.heap.size, 1, none⟩ = some (.string yp) ∧ w1.cell? ⟨w.heap.size, 2, none⟩ = some (.string mp) ∧ w1.cell? ⟨w.heap.size, 3, none⟩ = some (.string dp) ∧ w1.cell? ⟨w.heap.size + 1, 0, none⟩ = some (.int .i64 qS) ∧ w1.cell? ⟨w.heap.size + 1, 1, none⟩ = some (.int .i64 qE) ∧ w1.cell? ⟨w2.heap.size, 0, none⟩ = some (.int .i64 0) ∧ w1.cell? ⟨w2.heap.size, 1, none⟩ = some (.int .i64 kp) ∧ w1.cell? ⟨w2.heap.size, 2, none⟩ = some (.string yp) ∧ w1.cell? ⟨w2.heap.size, 3, none⟩ = some (.string mp) ∧ w1.cell? ⟨w2.heap.size, 4, none⟩ = some (.string dp) ∧ w1.cell? ⟨w2.heap.size, 5, none⟩ = some (.bool ask) ∧ w1.cell? ⟨w2.heap.size, 6, none⟩ = some (.bool true) ∧ w1.cell? ⟨w2.heap.size, 7, none⟩ = some (.slice none 0 0) from ⟨(HB.out w1 (K2.out.trans (ka.trans k))).1, (HB.out w1 (K2.out.trans (ka.trans k))).2.1, (HB.out w1 (K2.out.trans (ka.trans k))).2.2.1, (HB.out w1 (K2.out.trans (ka.trans k))).2.2.2.1, (HB.out w1 (K2.out.trans (ka.trans k))).2.2.2.2.1, (HB.out w1 (K2.out.trans (ka.trans k))).2.2.2.2.2, cell_up k q0, cell_up k q1, cell_up k q2, cell_up k q3, cell_up k q4, cell_up k q5, cell_up k q6, cell_up k q7⟩)
  have K01 := Lib.hid (K00.out.trans (K2.out.trans ka))
  clear HB K00 hgq c0 c1 c2 c3 c4 c5 q0 q1 q2 q3 q4 q5 q6 q7
  have HB := HB2
  have K00 := K01
  clear HB2 K01
  have K3 := Lib.hid (Kp.refl w3)
  have Hw3 := Lib.hid hV
  clear hV ka
  go_wp2_with fail
  rw [← Hw3.out]
  obtain ⟨c0, c1, c2, c3, c4, c5, c6, c7, c8, c9, c10, c11, c12, c13⟩ := HB.out w3 (Kp.refl _)
  go_wp2_with fail
  refine (SM.out _).mono ?_
  rintro e w4 ⟨⟨b, hb, rfl⟩, kk⟩
  have K4 := Lib.hid ((show Kp w3 _ from (by first | with_reducible exact K3.out | with_reducible exact K3.out.trans (Kp.alloc _ _) | with_reducible exact (K3.out.trans (Kp.alloc _ _)).trans (Kp.alloc _ _) | with_reducible exact ((K3.out.trans (Kp.alloc _ _)).trans (Kp.alloc _ _)).trans (Kp.alloc _ _) | with_reducible exact K3.out.trans (Kp.drew _) | with_reducible exact K3.out.trans (Kp.drewN _ _))).trans kk)
  clear kk c0 c1 c2 c3 c4 c5 c6 c7 c8 c9 c10 c11 c12 c13
  obtain ⟨c0, c1, c2, c3, c4, c5, c6, c7, c8, c9, c10, c11, c12, c13⟩ := HB.out w4 K4.out
  rcases hb with rfl | rfl
  rotate_left
  · go_wp2
    go_ret
    exact ⟨rfl, K00.out.trans K4.out⟩
  go_wp2_with fail
  refine (FW.out _).mono ?_
  rintro e w5 ⟨rfl, kk⟩
  have K5 := Lib.hid ((show Kp w3 _ from (by first | with_reducible exact K4.out | with_reducible exact K4.out.trans (Kp.alloc _ _) | with_reducible exact (K4.out.trans (Kp.alloc _ _)).trans (Kp.alloc _ _) | with_reducible exact ((K4.out.trans (Kp.alloc _ _)).trans (Kp.alloc _ _)).trans (Kp.alloc _ _) | with_reducible exact K4.out.trans (Kp.drew _) | with_reducible exact K4.out.trans (Kp.drewN _ _))).trans kk)
  clear kk
  clear c0 c1 c2 c3 c4 c5 c6 c7 c8 c9 c10 c11 c12 c13
  obtain ⟨c0, c1, c2, c3, c4, c5, c6, c7, c8, c9, c10, c11, c12, c13⟩ := HB.out w5 K5.out
  cases fb with
  | false =>
    go_wp2
    go_ret
    exact ⟨rfl, K00.out.trans K5.out⟩
  | true =>
    go_wp2_with fail
    refine (SN.out _ (K00.out.trans (by first | with_reducible exact K5.out | with_reducible exact K5.out.trans (Kp.alloc _ _) | with_reducible exact (K5.out.trans (Kp.alloc _ _)).trans (Kp.alloc _ _) | with_reducible exact ((K5.out.trans (Kp.alloc _ _)).trans (Kp.alloc _ _)).trans (Kp.alloc _ _) | with_reducible exact K5.out.trans (Kp.drew _) | with_reducible exact K5.out.trans (Kp.drewN _ _)))).mono ?_
    rintro e w6 ⟨rfl, kk⟩
    have K6 := Lib.hid ((show Kp w3 _ from (by first | with_reducible exact K5.out | with_reducible exact K5.out.trans (Kp.alloc _ _) | with_reducible exact (K5.out.trans (Kp.alloc _ _)).trans (Kp.alloc _ _) | with_reducible exact ((K5.out.trans (Kp.alloc _ _)).trans (Kp.alloc _ _)).trans (Kp.alloc _ _) | with_reducible exact K5.out.trans (Kp.drew _) | with_reducible exact K5.out.trans (Kp.drewN _ _))).trans kk)
    clear kk
    clear c0 c1 c2 c3 c4 c5 c6 c7 c8 c9 c10 c11 c12 c13
    obtain ⟨c0, c1, c2, c3, c4, c5, c6, c7, c8, c9, c10, c11, c12, c13⟩ := HB.out w6 K6.out
    go_wp2
    go_ret
    exact ⟨rfl, K00.out.trans K6.out⟩
set_option maxHeartbeats 16000000 in
set_option maxRecDepth 100000 in
theorem dpoint_wide_t (p : PT) (ask : Bool)  (qS qE : Int) (w : World) (hp1 : -9223372036854775808 ≤ p.k) (hp2 : p.k ≤ 9223372036854775807) (hq1 : -9223372036854775808 ≤ qS) (hq2 : qS ≤ 9223372036854775807) (hq3 : -9223372036854775808 ≤ qE) (hq4 : qE ≤ 9223372036854775807) (T : Tabs8 w) (hs : saneP p = true) (hu : unE (.mk 0 p ask true [] : ND) = 8) :
    Calls Tryz.prog 5 #[ptV p, .bool ask, .bool true, .agg #[.int .i64 qS, .int .i64 qE]] w fun e w' => e = .returned (.bool true) ∧ Kp w w' := by
  have AW := Lib.hid (fun w1 (kk : Kp w w1) => awake15 w1 (T.kp kk))
  have TO := Lib.hid (fun w1 => of_node_any p ask true w1)
  have SM := Lib.hid (fun w1 => small_any (.mk 0 p ask true [] : ND) (.slice none 0 0) w1 (.none none 0))
  have FW := Lib.hid (fun w1 => rfewG_any (.mk 0 p ask true [] : ND) (.slice none 0 0) w1 (.none none 0))
  have SN := Lib.hid (fun w1 (kk : Kp w w1) => tSaneG_any (.mk 0 p ask true [] : ND) (.slice none 0 0) w1 (.none none 0) (T.kp kk).2.1)
  rw [sane_pt] at SN
  generalize fewG (.mk 0 p ask true [] : ND) = fb at *
  have TO2 := Lib.hid (fun w1 => of_node_any p (!ask) true w1)
  have OF := Lib.hid (fun w1 (kk : Kp w w1) => dnOf_any (.mk 0 p ask true [] : ND) (.slice none 0 0) w1 (.none none 0) (T.kp kk))
  rw [ofE_pt hs, ofS_ptw (by rw [show unE (.mk 0 p ask true [] : ND) = unE (.mk 0 p ask true [] : ND) from rfl, hu]; omega)] at OF
  rw [show unE (.mk 0 p ask true [] : ND) = unE (.mk 0 p ask true [] : ND) from rfl, hu] at OF
  have OG := Lib.hid (fun w1 (kk : Kp w w1) => dnOf_any (.mk 0 p (!ask) true [] : ND) (.slice none 0 0) w1 (.none none 0) (T.kp kk))
  rw [ofE_pt hs, ofS_ptw (by rw [show unE (.mk 0 p (!ask) true [] : ND) = unE (.mk 0 p ask true [] : ND) from rfl, hu]; omega)] at OG
  rw [show unE (.mk 0 p (!ask) true [] : ND) = unE (.mk 0 p ask true [] : ND) from rfl, hu] at OG
  have PS := Lib.hid (fun w1 (kk : Kp w w1) => pset_any p w1 (T.kp kk))
  have PN := Lib.hid (fun w1 (kk : Kp w w1) => pnear_any p w1 (T.kp kk))
  rw [hs] at SN
  rw [unE_t] at hu
  rw [hu] at PN
  clear hs hu T
  obtain ⟨kp, yp, mp, dp⟩ := p
  unfold ptV at *
  simp only at *
  unfold ndV at *
  simp only [ND.k, ND.p, ND.a, ND.t, ND.l] at *
  obtain ⟨W0, hW⟩ : ∃ W0, W0 = (w.alloc (.cells #[.int .i64 kp, .string yp, .string mp, .string dp] 23)).alloc (.cells #[.int .i64 qS, .int .i64 qE] 42) := ⟨_, rfl⟩
  have K00 := Lib.hid (show Kp w W0 by rw [hW]; exact (Kp.alloc _ _).trans (Kp.alloc _ _))
  have HB := Lib.hid (fun w1 (k : Kp W0 w1) => show w1.cell? ⟨w.heap.size, 0, none⟩ = some (.int .i64 kp) ∧ w1.cell? ⟨w.heap.size, 1, none⟩ = some (.string yp) ∧ w1.cell? ⟨w.heap.size, 2, none⟩ = some (.string mp) ∧ w1.cell? ⟨w.heap.size, 3, none⟩ = some (.string dp) ∧ w1.cell? ⟨w.heap.size + 1, 0, none⟩ = some (.int .i64 qS) ∧ w1.cell? ⟨w.heap.size + 1, 1, none⟩ = some (.int .i64 qE) from ⟨cell_up k (show W0.cell? ⟨w.heap.size, 0, none⟩ = some (.int .i64 kp) by rw [hW]; simp), cell_up k (show W0.cell? ⟨w.heap.size, 1, none⟩ = some (.string yp) by rw [hW]; simp), cell_up k (show W0.cell? ⟨w.heap.size, 2, none⟩ = some (.string mp) by rw [hW]; simp), cell_up k (show W0.cell? ⟨w.heap.size, 3, none⟩ = some (.string dp) by rw [hW]; simp), cell_up k (show W0.cell? ⟨w.heap.size + 1, 0, none⟩ = some (.int .i64 qS) by rw [hW]; simp), cell_up k (show W0.cell? ⟨w.heap.size + 1, 1, none⟩ = some (.int .i64 qE) by rw [hW]; simp)⟩)
  obtain ⟨c0, c1, c2, c3, c4, c5⟩ := HB.out W0 (Kp.refl _)
  have K0 := Lib.hid (Kp.refl W0)
  have HW := Lib.hid hW
  clear hW
  go_enter Tryz.func5, Tryz.ntmps5
  go_wp2_with fail
  rw [← HW.out]
  refine (AW.out _ (K00.out.trans (by first | with_reducible exact K0.out | with_reducible exact K0.out.trans (Kp.alloc _ _) | with_reducible exact (K0.out.trans (Kp.alloc _ _)).trans (Kp.alloc _ _) | with_reducible exact ((K0.out.trans (Kp.alloc _ _)).trans (Kp.alloc _ _)).trans (Kp.alloc _ _) | with_reducible exact K0.out.trans (Kp.drew _) | with_reducible exact K0.out.trans (Kp.drewN _ _)))).mono ?_
  rintro e w1 ⟨rfl, kk⟩
  have K1 := Lib.hid ((show Kp W0 _ from (by first | with_reducible exact K0.out | with_reducible exact K0.out.trans (Kp.alloc _ _) | with_reducible exact (K0.out.trans (Kp.alloc _ _)).trans (Kp.alloc _ _) | with_reducible exact ((K0.out.trans (Kp.alloc _ _)).trans (Kp.alloc _ _)).trans (Kp.alloc _ _) | with_reducible exact K0.out.trans (Kp.drew _) | with_reducible exact K0.out.trans (Kp.drewN _ _))).trans kk)
  clear kk
  clear c0 c1 c2 c3 c4 c5
  obtain ⟨c0, c1, c2, c3, c4, c5⟩ := HB.out w1 K1.out
  go_wp2_with fail
  refine (TO.out _).mono ?_
  rintro e w2 ⟨rfl, kk⟩
  have K2 := Lib.hid ((show Kp W0 _ from (by first | with_reducible exact K1.out | with_reducible exact K1.out.trans (Kp.alloc _ _) | with_reducible exact (K1.out.trans (Kp.alloc _ _)).trans (Kp.alloc _ _) | with_reducible exact ((K1.out.trans (Kp.alloc _ _)).trans (Kp.alloc _ _)).trans (Kp.alloc _ _) | with_reducible exact K1.out.trans (Kp.drew _) | with_reducible exact K1.out.trans (Kp.drewN _ _))).trans kk)
  clear kk
  clear c0 c1 c2 c3 c4 c5
  obtain ⟨c0, c1, c2, c3, c4, c5⟩ := HB.out w2 K2.out
  obtain ⟨w3, hV⟩ : ∃ x, x = w2.alloc (.cells #[.int .i64 0, .int .i64 kp, .string yp, .string mp, .string dp, .bool ask, .bool true, .slice none 0 0] 26) := ⟨_, rfl⟩
  have ka : Kp w2 w3 := by rw [hV]; exact Kp.alloc _ _
  have hgq : w3.heap[w2.heap.size]? = some (.cells #[.int .i64 0, .int .i64 kp, .string yp, .string mp, .string dp, .bool ask, .bool true, .slice none 0 0] 26 (0, 0)) := by rw [hV]; exact heap_at _ _ _ rfl
  have q0 : w3.cell? ⟨w2.heap.size, 0, none⟩ = some (.int .i64 0) := by simp [World.cell?, hgq]
  have q1 : w3.cell? ⟨w2.heap.size, 1, none⟩ = some (.int .i64 kp) := by simp [World.cell?, hgq]
  have q2 : w3.cell? ⟨w2.heap.size, 2, none⟩ = some (.string yp) := by simp [World.cell?, hgq]
  have q3 : w3.cell? ⟨w2.heap.size, 3, none⟩ = some (.string mp) := by simp [World.cell?, hgq]
  have q4 : w3.cell? ⟨w2.heap.size, 4, none⟩ = some (.string dp) := by simp [World.cell?, hgq]
  have q5 : w3.cell? ⟨w2.heap.size, 5, none⟩ = some (.bool ask) := by simp [World.cell?, hgq]
  have q6 : w3.cell? ⟨w2.heap.size, 6, none⟩ = some (.bool true) := by simp [World.cell?, hgq]
  have q7 : w3.cell? ⟨w2.heap.size, 7, none⟩ = some (.slice none 0 0) := by simp [World.cell?, hgq]
  have HB2 := Lib.hid (fun w1 (k : Kp w3 w1) => show w1.cell? ⟨w.heap.size, 0, none⟩ = some (.int .i64 kp) ∧ w1.cell? ⟨w.heap.size, 1, none⟩ = some (.string yp) ∧ w1.cell? ⟨w.heap.size, 2, none⟩ = some (.string mp) ∧ w1.cell? ⟨w.heap.size, 3, none⟩ = some (.string dp) ∧ w1.cell? ⟨w.heap.size + 1, 0, none⟩ = some (.int .i64 qS) ∧ w1.cell? ⟨w.heap.size + 1, 1, none⟩ = some (.int .i64 qE) ∧ w1.cell? ⟨w2.heap.size, 0, none⟩ = some (.int .i64 0) ∧ w1.cell? ⟨w2.heap.size, 1, none⟩ = some (.int .i64 kp) ∧ w1.cell? ⟨w2.heap.size, 2, none⟩ = some (.string yp) ∧ w1.cell? ⟨w2.heap.size, 3, none⟩ = some (.string mp) ∧ w1.cell? ⟨w2.heap.size, 4, none⟩ = some (.string dp) ∧ w1.cell? ⟨w2.heap.size, 5, none⟩ = some (.bool ask) ∧ w1.cell? ⟨w2.heap.size, 6, none⟩ = some (.bool true) ∧ w1.cell? ⟨w2.heap.size, 7, none⟩ = some (.slice none 0 0) from ⟨(HB.out w1 (K2.out.trans (ka.trans k))).1, (HB.out w1 (K2.out.trans (ka.trans k))).2.1, (HB.out w1 (K2.out.trans (ka.trans k))).2.2.1, (HB.out w1 (K2.out.trans (ka.trans k))).2.2.2.1, (HB.out w1 (K2.out.trans (ka.trans k))).2.2.2.2.1, (HB.out w1 (K2.out.trans (ka.trans k))).2.2.2.2.2, cell_up k q0, cell_up k q1, cell_up k q2, cell_up k q3, cell_up k q4, cell_up k q5, cell_up k q6, cell_up k q7⟩)
  have K01 := Lib.hid (K00.out.trans (K2.out.trans ka))
  clear HB K00 hgq c0 c1 c2 c3 c4 c5 q0 q1 q2 q3 q4 q5 q6 q7
  have HB := HB2
  have K00 := K01
  clear HB2 K01
  have K3 := Lib.hid (Kp.refl w3)
  have Hw3 := Lib.hid hV
  clear hV ka
  go_wp2_with fail
  rw [← Hw3.out]
  obtain ⟨c0, c1, c2, c3, c4, c5, c6, c7, c8, c9, c10, c11, c12, c13⟩ := HB.out w3 (Kp.refl _)
  go_wp2_with fail
  refine (SM.out _).mono ?_
  rintro e w4 ⟨⟨b, hb, rfl⟩, kk⟩
  have K4 := Lib.hid ((show Kp w3 _ from (by first | with_reducible exact K3.out | with_reducible exact K3.out.trans (Kp.alloc _ _) | with_reducible exact (K3.out.trans (Kp.alloc _ _)).trans (Kp.alloc _ _) | with_reducible exact ((K3.out.trans (Kp.alloc _ _)).trans (Kp.alloc _ _)).trans (Kp.alloc _ _) | with_reducible exact K3.out.trans (Kp.drew _) | with_reducible exact K3.out.trans (Kp.drewN _ _))).trans kk)
  clear kk c0 c1 c2 c3 c4 c5 c6 c7 c8 c9 c10 c11 c12 c13
  obtain ⟨c0, c1, c2, c3, c4, c5, c6, c7, c8, c9, c10, c11, c12, c13⟩ := HB.out w4 K4.out
  rcases hb with rfl | rfl
  rotate_left
  · go_wp2
    go_ret
    exact ⟨rfl, K00.out.trans K4.out⟩
  go_wp2_with fail
  refine (FW.out _).mono ?_
  rintro e w5 ⟨rfl, kk⟩
  have K5 := Lib.hid ((show Kp w3 _ from (by first | with_reducible exact K4.out | with_reducible exact K4.out.trans (Kp.alloc _ _) | with_reducible exact (K4.out.trans (Kp.alloc _ _)).trans (Kp.alloc _ _) | with_reducible exact ((K4.out.trans (Kp.alloc _ _)).trans (Kp.alloc _ _)).trans (Kp.alloc _ _) | with_reducible exact K4.out.trans (Kp.drew _) | with_reducible exact K4.out.trans (Kp.drewN _ _))).trans kk)
  clear kk
  clear c0 c1 c2 c3 c4 c5 c6 c7 c8 c9 c10 c11 c12 c13
  obtain ⟨c0, c1, c2, c3, c4, c5, c6, c7, c8, c9, c10, c11, c12, c13⟩ := HB.out w5 K5.out
  cases fb with
  | false =>
    go_wp2
    go_ret
    exact ⟨rfl, K00.out.trans K5.out⟩
  | true =>
    go_wp2_with fail
    refine (SN.out _ (K00.out.trans (by first | with_reducible exact K5.out | with_reducible exact K5.out.trans (Kp.alloc _ _) | with_reducible exact (K5.out.trans (Kp.alloc _ _)).trans (Kp.alloc _ _) | with_reducible exact ((K5.out.trans (Kp.alloc _ _)).trans (Kp.alloc _ _)).trans (Kp.alloc _ _) | with_reducible exact K5.out.trans (Kp.drew _) | with_reducible exact K5.out.trans (Kp.drewN _ _)))).mono ?_
    rintro e w6 ⟨rfl, kk⟩
    have K6 := Lib.hid ((show Kp w3 _ from (by first | with_reducible exact K5.out | with_reducible exact K5.out.trans (Kp.alloc _ _) | with_reducible exact (K5.out.trans (Kp.alloc _ _)).trans (Kp.alloc _ _) | with_reducible exact ((K5.out.trans (Kp.alloc _ _)).trans (Kp.alloc _ _)).trans (Kp.alloc _ _) | with_reducible exact K5.out.trans (Kp.drew _) | with_reducible exact K5.out.trans (Kp.drewN _ _))).trans kk)
    clear kk
    clear c0 c1 c2 c3 c4 c5 c6 c7 c8 c9 c10 c11 c12 c13
    obtain ⟨c0, c1, c2, c3, c4, c5, c6, c7, c8, c9, c10, c11, c12, c13⟩ := HB.out w6 K6.out
    go_wp2_with fail
    refine (OF.out _ (K00.out.trans (by first | with_reducible exact K6.out | with_reducible exact K6.out.trans (Kp.alloc _ _) | with_reducible exact (K6.out.trans (Kp.alloc _ _)).trans (Kp.alloc _ _) | with_reducible exact ((K6.out.trans (Kp.alloc _ _)).trans (Kp.alloc _ _)).trans (Kp.alloc _ _) | with_reducible exact K6.out.trans (Kp.drew _) | with_reducible exact K6.out.trans (Kp.drewN _ _)))).mono ?_
    rintro e w7 ⟨v7, rfl, h7, kk⟩
    have K7 := Lib.hid ((show Kp w3 _ from (by first | with_reducible exact K6.out | with_reducible exact K6.out.trans (Kp.alloc _ _) | with_reducible exact (K6.out.trans (Kp.alloc _ _)).trans (Kp.alloc _ _) | with_reducible exact ((K6.out.trans (Kp.alloc _ _)).trans (Kp.alloc _ _)).trans (Kp.alloc _ _) | with_reducible exact K6.out.trans (Kp.drew _) | with_reducible exact K6.out.trans (Kp.drewN _ _))).trans kk)
    obtain ⟨ad7, cp7, rfl⟩ := h7.slice
    clear kk h7
    clear c0 c1 c2 c3 c4 c5 c6 c7 c8 c9 c10 c11 c12 c13
    obtain ⟨c0, c1, c2, c3, c4, c5, c6, c7, c8, c9, c10, c11, c12, c13⟩ := HB.out w7 K7.out
    go_wp2_with fail
    refine (PS.out _ (K00.out.trans (by first | with_reducible exact K7.out | with_reducible exact K7.out.trans (Kp.alloc _ _) | with_reducible exact (K7.out.trans (Kp.alloc _ _)).trans (Kp.alloc _ _) | with_reducible exact ((K7.out.trans (Kp.alloc _ _)).trans (Kp.alloc _ _)).trans (Kp.alloc _ _) | with_reducible exact K7.out.trans (Kp.drew _) | with_reducible exact K7.out.trans (Kp.drewN _ _)))).mono ?_
    rintro e w8 ⟨v8, rfl, own8, kk⟩
    have K8 := Lib.hid ((show Kp w3 _ from (by first | with_reducible exact K7.out | with_reducible exact K7.out.trans (Kp.alloc _ _) | with_reducible exact (K7.out.trans (Kp.alloc _ _)).trans (Kp.alloc _ _) | with_reducible exact ((K7.out.trans (Kp.alloc _ _)).trans (Kp.alloc _ _)).trans (Kp.alloc _ _) | with_reducible exact K7.out.trans (Kp.drew _) | with_reducible exact K7.out.trans (Kp.drewN _ _))).trans kk)
    obtain ⟨ad8, cp8, rfl⟩ := own_slice own8
    clear kk own8
    clear c0 c1 c2 c3 c4 c5 c6 c7 c8 c9 c10 c11 c12 c13
    obtain ⟨c0, c1, c2, c3, c4, c5, c6, c7, c8, c9, c10, c11, c12, c13⟩ := HB.out w8 K8.out
    go_wp2_with fail
    refine (PN.out _ (K00.out.trans (by first | with_reducible exact K8.out | with_reducible exact K8.out.trans (Kp.alloc _ _) | with_reducible exact (K8.out.trans (Kp.alloc _ _)).trans (Kp.alloc _ _) | with_reducible exact ((K8.out.trans (Kp.alloc _ _)).trans (Kp.alloc _ _)).trans (Kp.alloc _ _) | with_reducible exact K8.out.trans (Kp.drew _) | with_reducible exact K8.out.trans (Kp.drewN _ _)))).mono ?_
    rintro e w9 ⟨v9, rfl, own9, kk⟩
    have K9 := Lib.hid ((show Kp w3 _ from (by first | with_reducible exact K8.out | with_reducible exact K8.out.trans (Kp.alloc _ _) | with_reducible exact (K8.out.trans (Kp.alloc _ _)).trans (Kp.alloc _ _) | with_reducible exact ((K8.out.trans (Kp.alloc _ _)).trans (Kp.alloc _ _)).trans (Kp.alloc _ _) | with_reducible exact K8.out.trans (Kp.drew _) | with_reducible exact K8.out.trans (Kp.drewN _ _))).trans kk)
    obtain ⟨ad9, cp9, rfl⟩ := own_slice own9
    clear kk own9
    clear c0 c1 c2 c3 c4 c5 c6 c7 c8 c9 c10 c11 c12 c13
    obtain ⟨c0, c1, c2, c3, c4, c5, c6, c7, c8, c9, c10, c11, c12, c13⟩ := HB.out w9 K9.out
    go_wp2_with fail
    refine (TO2.out _).mono ?_
    rintro e w10 ⟨rfl, kk⟩
    have K10 := Lib.hid ((show Kp w3 _ from (by first | with_reducible exact K9.out | with_reducible exact K9.out.trans (Kp.alloc _ _) | with_reducible exact (K9.out.trans (Kp.alloc _ _)).trans (Kp.alloc _ _) | with_reducible exact ((K9.out.trans (Kp.alloc _ _)).trans (Kp.alloc _ _)).trans (Kp.alloc _ _) | with_reducible exact K9.out.trans (Kp.drew _) | with_reducible exact K9.out.trans (Kp.drewN _ _))).trans kk)
    clear kk
    clear c0 c1 c2 c3 c4 c5 c6 c7 c8 c9 c10 c11 c12 c13
    obtain ⟨c0, c1, c2, c3, c4, c5, c6, c7, c8, c9, c10, c11, c12, c13⟩ := HB.out w10 K10.out
    go_wp2_with fail
    refine (OG.out _ (K00.out.trans (by first | with_reducible exact K10.out | with_reducible exact K10.out.trans (Kp.alloc _ _) | with_reducible exact (K10.out.trans (Kp.alloc _ _)).trans (Kp.alloc _ _) | with_reducible exact ((K10.out.trans (Kp.alloc _ _)).trans (Kp.alloc _ _)).trans (Kp.alloc _ _) | with_reducible exact K10.out.trans (Kp.drew _) | with_reducible exact K10.out.trans (Kp.drewN _ _)))).mono ?_
    rintro e w11 ⟨va, rfl, ha, kk⟩
    have K11 := Lib.hid ((show Kp w3 _ from (by first | with_reducible exact K10.out | with_reducible exact K10.out.trans (Kp.alloc _ _) | with_reducible exact (K10.out.trans (Kp.alloc _ _)).trans (Kp.alloc _ _) | with_reducible exact ((K10.out.trans (Kp.alloc _ _)).trans (Kp.alloc _ _)).trans (Kp.alloc _ _) | with_reducible exact K10.out.trans (Kp.drew _) | with_reducible exact K10.out.trans (Kp.drewN _ _))).trans kk)
    obtain ⟨ada, cpa, rfl⟩ := ha.slice
    clear kk ha
    clear c0 c1 c2 c3 c4 c5 c6 c7 c8 c9 c10 c11 c12 c13
    obtain ⟨c0, c1, c2, c3, c4, c5, c6, c7, c8, c9, c10, c11, c12, c13⟩ := HB.out w11 K11.out
    have KS := Lib.hid (fun w' (kq : Kp w11 w') => show w'.cell? ⟨w.heap.size, 0, none⟩ = some (.int .i64 kp) ∧ w'.cell? ⟨w.heap.size, 1, none⟩ = some (.string yp) ∧ w'.cell? ⟨w.heap.size, 2, none⟩ = some (.string mp) ∧ w'.cell? ⟨w.heap.size, 3, none⟩ = some (.string dp) ∧ w'.cell? ⟨w.heap.size + 1, 0, none⟩ = some (.int .i64 qS) ∧ w'.cell? ⟨w.heap.size + 1, 1, none⟩ = some (.int .i64 qE) ∧ w'.cell? ⟨w2.heap.size, 0, none⟩ = some (.int .i64 0) ∧ w'.cell? ⟨w2.heap.size, 1, none⟩ = some (.int .i64 kp) ∧ w'.cell? ⟨w2.heap.size, 2, none⟩ = some (.string yp) ∧ w'.cell? ⟨w2.heap.size, 3, none⟩ = some (.string mp) ∧ w'.cell? ⟨w2.heap.size, 4, none⟩ = some (.string dp) ∧ w'.cell? ⟨w2.heap.size, 5, none⟩ = some (.bool ask) ∧ w'.cell? ⟨w2.heap.size, 6, none⟩ = some (.bool true) ∧ w'.cell? ⟨w2.heap.size, 7, none⟩ = some (.slice none 0 0) ∧ Kp w11 w' from ⟨(HB.out w' (K11.out.trans kq)).1, (HB.out w' (K11.out.trans kq)).2.1, (HB.out w' (K11.out.trans kq)).2.2.1, (HB.out w' (K11.out.trans kq)).2.2.2.1, (HB.out w' (K11.out.trans kq)).2.2.2.2.1, (HB.out w' (K11.out.trans kq)).2.2.2.2.2.1, (HB.out w' (K11.out.trans kq)).2.2.2.2.2.2.1, (HB.out w' (K11.out.trans kq)).2.2.2.2.2.2.2.1, (HB.out w' (K11.out.trans kq)).2.2.2.2.2.2.2.2.1, (HB.out w' (K11.out.trans kq)).2.2.2.2.2.2.2.2.2.1, (HB.out w' (K11.out.trans kq)).2.2.2.2.2.2.2.2.2.2.1, (HB.out w' (K11.out.trans kq)).2.2.2.2.2.2.2.2.2.2.2.1, (HB.out w' (K11.out.trans kq)).2.2.2.2.2.2.2.2.2.2.2.2.1, (HB.out w' (K11.out.trans kq)).2.2.2.2.2.2.2.2.2.2.2.2.2, kq⟩)
    go_wp2_with fail
    refine wp_region_held_drew (S := fun w' => w'.cell? ⟨w.heap.size, 0, none⟩ = some (.int .i64 kp) ∧ w'.cell? ⟨w.heap.size, 1, none⟩ = some (.string yp) ∧ w'.cell? ⟨w.heap.size, 2, none⟩ = some (.string mp) ∧ w'.cell? ⟨w.heap.size, 3, none⟩ = some (.string dp) ∧ w'.cell? ⟨w.heap.size + 1, 0, none⟩ = some (.int .i64 qS) ∧ w'.cell? ⟨w.heap.size + 1, 1, none⟩ = some (.int .i64 qE) ∧ w'.cell? ⟨w2.heap.size, 0, none⟩ = some (.int .i64 0) ∧ w'.cell? ⟨w2.heap.size, 1, none⟩ = some (.int .i64 kp) ∧ w'.cell? ⟨w2.heap.size, 2, none⟩ = some (.string yp) ∧ w'.cell? ⟨w2.heap.size, 3, none⟩ = some (.string mp) ∧ w'.cell? ⟨w2.heap.size, 4, none⟩ = some (.string dp) ∧ w'.cell? ⟨w2.heap.size, 5, none⟩ = some (.bool ask) ∧ w'.cell? ⟨w2.heap.size, 6, none⟩ = some (.bool true) ∧ w'.cell? ⟨w2.heap.size, 7, none⟩ = some (.slice none 0 0) ∧ Kp w11 w') (by kernel_rfl) ?_ (fun hHeld0 => ?_)
    · (try dsimp only); exact KS.out _ (by first | assumption | exact Kp.drew _)
    refine tkW (v := ?_) 0 ptA0 rfl (by kernel_rfl) (by kernel_rfl) (by kernel_rfl) (fun _ _ _ h => h) (by rfl) ?_ (by assumption) ?_
    rotate_left
    · intro w hSw; (try dsimp only at hSw); go_simp; (try with_reducible rfl)
    (try simp only [Act.put, ptA0, List.setIfInBounds_toArray, List.set_cons_zero, List.set_cons_succ])
    refine tkW (v := ?_) 1 ptA1 rfl (by kernel_rfl) (by kernel_rfl) (by kernel_rfl) (fun _ _ _ h => h) (by rfl) ?_ (by assumption) ?_
    rotate_left
    · intro w hSw; (try dsimp only at hSw); go_simp; (try with_reducible rfl)
    (try simp only [Act.put, ptA1, List.setIfInBounds_toArray, List.set_cons_zero, List.set_cons_succ])
    refine tkW (v := ?_) 2 ptA2 rfl (by kernel_rfl) (by kernel_rfl) (by kernel_rfl) (fun _ _ _ h => h) (by rfl) ?_ (by assumption) ?_
    rotate_left
    · intro w hSw; (try dsimp only at hSw); go_simp; (try with_reducible rfl)
    (try simp only [Act.put, ptA2, List.setIfInBounds_toArray, List.set_cons_zero, List.set_cons_succ])
    refine tkW (v := ?_) 3 ptA3 rfl (by kernel_rfl) (by kernel_rfl) (by kernel_rfl) (fun _ _ _ h => h) (by rfl) ?_ (by assumption) ?_
    rotate_left
    · intro w hSw; (try dsimp only at hSw); go_simp; (try with_reducible rfl)
    (try simp only [Act.put, ptA3, List.setIfInBounds_toArray, List.set_cons_zero, List.set_cons_succ])
    refine tkW (v := ?_) 4 ptA4 rfl (by kernel_rfl) (by kernel_rfl) (by kernel_rfl) (fun _ _ _ h => h) (by rfl) ?_ (by assumption) ?_
    rotate_left
    · intro w hSw; (try dsimp only at hSw); go_simp; (try with_reducible rfl)
    (try simp only [Act.put, ptA4, List.setIfInBounds_toArray, List.set_cons_zero, List.set_cons_succ])
    refine tkW (v := ?_) 5 ptA5 rfl (by kernel_rfl) (by kernel_rfl) (by kernel_rfl) (fun _ _ _ h => h) (by rfl) ?_ (by assumption) ?_
    rotate_left
    · intro w hSw; (try dsimp only at hSw); go_simp; (try with_reducible rfl)
    (try simp only [Act.put, ptA5, List.setIfInBounds_toArray, List.set_cons_zero, List.set_cons_succ])
    refine tkW (v := ?_) 6 ptA6 rfl (by kernel_rfl) (by kernel_rfl) (by kernel_rfl) (fun _ _ _ h => h) (by rfl) ?_ (by assumption) ?_
    rotate_left
    · intro w hSw; (try dsimp only at hSw); go_simp; (try with_reducible rfl)
    (try simp only [Act.put, ptA6, List.setIfInBounds_toArray, List.set_cons_zero, List.set_cons_succ])
    refine tkW (v := ?_) 7 ptA7 rfl (by kernel_rfl) (by kernel_rfl) (by kernel_rfl) (fun _ _ _ h => h) (by rfl) ?_ (by assumption) ?_
    rotate_left
    · intro w hSw; (try dsimp only at hSw); go_simp; (try with_reducible rfl)
    (try simp only [Act.put, ptA7, List.setIfInBounds_toArray, List.set_cons_zero, List.set_cons_succ])
    refine tkW (v := ?_) 8 ptA8 rfl (by kernel_rfl) (by kernel_rfl) (by kernel_rfl) (fun _ _ _ h => h) (by rfl) ?_ (by assumption) ?_
    rotate_left
    · intro w hSw; (try dsimp only at hSw); go_simp; (try with_reducible rfl)
    (try simp only [Act.put, ptA8, List.setIfInBounds_toArray, List.set_cons_zero, List.set_cons_succ])
    refine tkW (v := ?_) 9 ptA9 rfl (by kernel_rfl) (by kernel_rfl) (by kernel_rfl) (fun _ _ _ h => h) (by rfl) ?_ (by assumption) ?_
    rotate_left
    · intro w hSw; (try dsimp only at hSw); go_simp; (try with_reducible rfl)
    (try simp only [Act.put, ptA9, List.setIfInBounds_toArray, List.set_cons_zero, List.set_cons_succ])
    refine tkU 10 ptA10 rfl (by kernel_rfl) (by kernel_rfl) (by kernel_rfl) (fun _ _ _ h => h) (by rfl) (by assumption) ?_
    (try simp only [Act.put, ptA10, List.setIfInBounds_toArray, List.set_cons_zero, List.set_cons_succ])
    refine tkU 11 ptA11 rfl (by kernel_rfl) (by kernel_rfl) (by kernel_rfl) (fun _ _ _ h => h) (by rfl) (by assumption) ?_
    (try simp only [Act.put, ptA11, List.setIfInBounds_toArray, List.set_cons_zero, List.set_cons_succ])
    refine tkU 12 ptA12 rfl (by kernel_rfl) (by kernel_rfl) (by kernel_rfl) (fun _ _ _ h => h) (by rfl) (by assumption) ?_
    (try simp only [Act.put, ptA12, List.setIfInBounds_toArray, List.set_cons_zero, List.set_cons_succ])
    refine tkU 13 ptA13 rfl (by kernel_rfl) (by kernel_rfl) (by kernel_rfl) (fun _ _ _ h => h) (by rfl) (by assumption) ?_
    (try simp only [Act.put, ptA13, List.setIfInBounds_toArray, List.set_cons_zero, List.set_cons_succ])
    refine tkU 14 ptA14 rfl (by kernel_rfl) (by kernel_rfl) (by kernel_rfl) (fun _ _ _ h => h) (by rfl) (by assumption) ?_
    (try simp only [Act.put, ptA14, List.setIfInBounds_toArray, List.set_cons_zero, List.set_cons_succ])
    refine tkU 15 ptA15 rfl (by kernel_rfl) (by kernel_rfl) (by kernel_rfl) (fun _ _ _ h => h) (by rfl) (by assumption) ?_
    (try simp only [Act.put, ptA15, List.setIfInBounds_toArray, List.set_cons_zero, List.set_cons_succ])
    refine tkU 16 ptA16 rfl (by kernel_rfl) (by kernel_rfl) (by kernel_rfl) (fun _ _ _ h => h) (by rfl) (by assumption) ?_
    (try simp only [Act.put, ptA16, List.setIfInBounds_toArray, List.set_cons_zero, List.set_cons_succ])
    refine tkU 17 ptA17 rfl (by kernel_rfl) (by kernel_rfl) (by kernel_rfl) (fun _ _ _ h => h) (by rfl) (by assumption) ?_
    (try simp only [Act.put, ptA17, List.setIfInBounds_toArray, List.set_cons_zero, List.set_cons_succ])
    refine tkU 18 ptA18 rfl (by kernel_rfl) (by kernel_rfl) (by kernel_rfl) (fun _ _ _ h => h) (by rfl) (by assumption) ?_
    (try simp only [Act.put, ptA18, List.setIfInBounds_toArray, List.set_cons_zero, List.set_cons_succ])
    refine tkU 19 ptA19 rfl (by kernel_rfl) (by kernel_rfl) (by kernel_rfl) (fun _ _ _ h => h) (by rfl) (by assumption) ?_
    (try simp only [Act.put, ptA19, List.setIfInBounds_toArray, List.set_cons_zero, List.set_cons_succ])
    refine tkU 20 ptA20 rfl (by kernel_rfl) (by kernel_rfl) (by kernel_rfl) (fun _ _ _ h => h) (by rfl) (by assumption) ?_
    (try simp only [Act.put, ptA20, List.setIfInBounds_toArray, List.set_cons_zero, List.set_cons_succ])
    refine tkU 21 ptA21 rfl (by kernel_rfl) (by kernel_rfl) (by kernel_rfl) (fun _ _ _ h => h) (by rfl) (by assumption) ?_
    (try simp only [Act.put, ptA21, List.setIfInBounds_toArray, List.set_cons_zero, List.set_cons_succ])
    refine tkU 22 ptA22 rfl (by kernel_rfl) (by kernel_rfl) (by kernel_rfl) (fun _ _ _ h => h) (by rfl) (by assumption) ?_
    (try simp only [Act.put, ptA22, List.setIfInBounds_toArray, List.set_cons_zero, List.set_cons_succ])
    refine tkU 23 ptA23 rfl (by kernel_rfl) (by kernel_rfl) (by kernel_rfl) (fun _ _ _ h => h) (by rfl) (by assumption) ?_
    (try simp only [Act.put, ptA23, List.setIfInBounds_toArray, List.set_cons_zero, List.set_cons_succ])
    refine tkU 24 ptA24 rfl (by kernel_rfl) (by kernel_rfl) (by kernel_rfl) (fun _ _ _ h => h) (by rfl) (by assumption) ?_
    (try simp only [Act.put, ptA24, List.setIfInBounds_toArray, List.set_cons_zero, List.set_cons_succ])
    refine tkW (v := ?_) 25 ptA25 rfl (by kernel_rfl) (by kernel_rfl) (by kernel_rfl) (fun _ _ _ h => h) (by rfl) ?_ (by assumption) ?_
    rotate_left
    · intro w hSw; (try dsimp only at hSw); go_simp; (try with_reducible rfl)
    (try simp only [Act.put, ptA25, List.setIfInBounds_toArray, List.set_cons_zero, List.set_cons_succ])
    refine tkW (v := ?_) 26 ptA26 rfl (by kernel_rfl) (by kernel_rfl) (by kernel_rfl) (fun _ _ _ h => h) (by rfl) ?_ (by assumption) ?_
    rotate_left
    · intro w hSw; (try dsimp only at hSw); go_simp; (try with_reducible rfl)
    (try simp only [Act.put, ptA26, List.setIfInBounds_toArray, List.set_cons_zero, List.set_cons_succ])
    refine tkW (v := ?_) 27 ptA27 rfl (by kernel_rfl) (by kernel_rfl) (by kernel_rfl) (fun _ _ _ h => h) (by rfl) ?_ (by assumption) ?_
    rotate_left
    · intro w hSw; (try dsimp only at hSw); go_simp; (try with_reducible rfl)
    (try simp only [Act.put, ptA27, List.setIfInBounds_toArray, List.set_cons_zero, List.set_cons_succ])
    refine wpAnyH_done (by kernel_rfl) ?_ _
    go_wp2
    go_ret
    exact ⟨rfl, K00.out.trans (K11.out.trans (by first | assumption | exact Kp.drew _))⟩
set_option maxHeartbeats 16000000 in
set_option maxRecDepth 100000 in
theorem dpoint_yes_t (p : PT) (ask : Bool)  (qS qE : Int) (w : World) (hp1 : -9223372036854775808 ≤ p.k) (hp2 : p.k ≤ 9223372036854775807) (hq1 : -9223372036854775808 ≤ qS) (hq2 : qS ≤ 9223372036854775807) (hq3 : -9223372036854775808 ≤ qE) (hq4 : qE ≤ 9223372036854775807) (T : Tabs8 w) (hs : saneP p = true) (hu : unE (.mk 0 p ask true [] : ND) = 0) :
    Calls Tryz.prog 5 #[ptV p, .bool ask, .bool true, .agg #[.int .i64 qS, .int .i64 qE]] w fun e w' => e = .returned (.bool true) ∧ Kp w w' := by
  have AW := Lib.hid (fun w1 (kk : Kp w w1) => awake15 w1 (T.kp kk))
  have TO := Lib.hid (fun w1 => of_node_any p ask true w1)
  have SM := Lib.hid (fun w1 => small_any (.mk 0 p ask true [] : ND) (.slice none 0 0) w1 (.none none 0))
  have FW := Lib.hid (fun w1 => rfewG_any (.mk 0 p ask true [] : ND) (.slice none 0 0) w1 (.none none 0))
  have SN := Lib.hid (fun w1 (kk : Kp w w1) => tSaneG_any (.mk 0 p ask true [] : ND) (.slice none 0 0) w1 (.none none 0) (T.kp kk).2.1)
  rw [sane_pt] at SN
  generalize fewG (.mk 0 p ask true [] : ND) = fb at *
  have TO2 := Lib.hid (fun w1 => of_node_any p (!ask) true w1)
  have OF := Lib.hid (fun w1 (kk : Kp w w1) => dnOf_any (.mk 0 p ask true [] : ND) (.slice none 0 0) w1 (.none none 0) (T.kp kk))
  rw [ofE_pt hs, ofS_pt hs (by rw [show unE (.mk 0 p ask true [] : ND) = unE (.mk 0 p ask true [] : ND) from rfl, hu])] at OF
  rw [show unE (.mk 0 p ask true [] : ND) = unE (.mk 0 p ask true [] : ND) from rfl, hu] at OF
  rw [show unS (.mk 0 p ask true [] : ND) = unS (.mk 0 p ask true [] : ND) from rfl] at OF
  have OG := Lib.hid (fun w1 (kk : Kp w w1) => dnOf_any (.mk 0 p (!ask) true [] : ND) (.slice none 0 0) w1 (.none none 0) (T.kp kk))
  rw [ofE_pt hs, ofS_pt hs (by rw [show unE (.mk 0 p (!ask) true [] : ND) = unE (.mk 0 p ask true [] : ND) from rfl, hu])] at OG
  rw [show unE (.mk 0 p (!ask) true [] : ND) = unE (.mk 0 p ask true [] : ND) from rfl, hu] at OG
  rw [show unS (.mk 0 p (!ask) true [] : ND) = unS (.mk 0 p ask true [] : ND) from rfl] at OG
  have PS := Lib.hid (fun w1 (kk : Kp w w1) => pset_any p w1 (T.kp kk))
  have PN := Lib.hid (fun w1 (kk : Kp w w1) => pnear_any p w1 (T.kp kk))
  rw [hs] at SN
  have uo := un_ok hu
  simp only [ND.p] at uo
  rw [unE_t] at hu
  rw [hu] at PN
  rw [unS_t] at OF OG uo
  generalize nearS p = U at *
  have LO := lf_one uo
  have HC := Lib.hid (fun v w1 (hv : LeavesAt w1 v [⟨false, p.k, U, []⟩]) (kk : Kp w w1) => by
    have c := denHas_any v _ qS qE w1 hv LO (T.kp kk).1 hq1 hq2 hq3 hq4
    rw [show hasL [⟨false, p.k, U, []⟩] qS qE = hasF (famR ⟨false, p.k, U, []⟩) qS qE by unfold hasL; rw [List.any_cons, List.any_nil, Bool.or_false]] at c
    exact c)
  have LH := Lib.hid (fun ad c w1 (hv : RunsAt w1 (.slice ad U.length c) U) (kk : Kp w w1) => by
    have c := leafHas_any ⟨false, p.k, U, []⟩ (.slice ad U.length c) (.slice none 0 0) qS qE w1 ⟨hv, .inl ⟨_, _, rfl, rfl⟩, (LO _ (List.mem_singleton.2 rfl)).1, dw_nil, (LO _ (List.mem_singleton.2 rfl)).2.2.1, by simp⟩ (T.kp kk).1 hq1 hq2 hq3 hq4
    unfold leafV at c
    exact c)
  generalize hasF (famR ⟨false, p.k, U, []⟩) qS qE = hb at *
  simp only at LH HC OF OG
  clear LO uo
  clear hs hu T
  obtain ⟨kp, yp, mp, dp⟩ := p
  unfold ptV at *
  simp only at *
  unfold ndV at *
  simp only [ND.k, ND.p, ND.a, ND.t, ND.l] at *
  obtain ⟨W0, hW⟩ : ∃ W0, W0 = (w.alloc (.cells #[.int .i64 kp, .string yp, .string mp, .string dp] 23)).alloc (.cells #[.int .i64 qS, .int .i64 qE] 42) := ⟨_, rfl⟩
  have K00 := Lib.hid (show Kp w W0 by rw [hW]; exact (Kp.alloc _ _).trans (Kp.alloc _ _))
  have HB := Lib.hid (fun w1 (k : Kp W0 w1) => show w1.cell? ⟨w.heap.size, 0, none⟩ = some (.int .i64 kp) ∧ w1.cell? ⟨w.heap.size, 1, none⟩ = some (.string yp) ∧ w1.cell? ⟨w.heap.size, 2, none⟩ = some (.string mp) ∧ w1.cell? ⟨w.heap.size, 3, none⟩ = some (.string dp) ∧ w1.cell? ⟨w.heap.size + 1, 0, none⟩ = some (.int .i64 qS) ∧ w1.cell? ⟨w.heap.size + 1, 1, none⟩ = some (.int .i64 qE) from ⟨cell_up k (show W0.cell? ⟨w.heap.size, 0, none⟩ = some (.int .i64 kp) by rw [hW]; simp), cell_up k (show W0.cell? ⟨w.heap.size, 1, none⟩ = some (.string yp) by rw [hW]; simp), cell_up k (show W0.cell? ⟨w.heap.size, 2, none⟩ = some (.string mp) by rw [hW]; simp), cell_up k (show W0.cell? ⟨w.heap.size, 3, none⟩ = some (.string dp) by rw [hW]; simp), cell_up k (show W0.cell? ⟨w.heap.size + 1, 0, none⟩ = some (.int .i64 qS) by rw [hW]; simp), cell_up k (show W0.cell? ⟨w.heap.size + 1, 1, none⟩ = some (.int .i64 qE) by rw [hW]; simp)⟩)
  obtain ⟨c0, c1, c2, c3, c4, c5⟩ := HB.out W0 (Kp.refl _)
  have K0 := Lib.hid (Kp.refl W0)
  have HW := Lib.hid hW
  clear hW
  go_enter Tryz.func5, Tryz.ntmps5
  go_wp2_with fail
  rw [← HW.out]
  refine (AW.out _ (K00.out.trans (by first | with_reducible exact K0.out | with_reducible exact K0.out.trans (Kp.alloc _ _) | with_reducible exact (K0.out.trans (Kp.alloc _ _)).trans (Kp.alloc _ _) | with_reducible exact ((K0.out.trans (Kp.alloc _ _)).trans (Kp.alloc _ _)).trans (Kp.alloc _ _) | with_reducible exact K0.out.trans (Kp.drew _) | with_reducible exact K0.out.trans (Kp.drewN _ _)))).mono ?_
  rintro e w1 ⟨rfl, kk⟩
  have K1 := Lib.hid ((show Kp W0 _ from (by first | with_reducible exact K0.out | with_reducible exact K0.out.trans (Kp.alloc _ _) | with_reducible exact (K0.out.trans (Kp.alloc _ _)).trans (Kp.alloc _ _) | with_reducible exact ((K0.out.trans (Kp.alloc _ _)).trans (Kp.alloc _ _)).trans (Kp.alloc _ _) | with_reducible exact K0.out.trans (Kp.drew _) | with_reducible exact K0.out.trans (Kp.drewN _ _))).trans kk)
  clear kk
  clear c0 c1 c2 c3 c4 c5
  obtain ⟨c0, c1, c2, c3, c4, c5⟩ := HB.out w1 K1.out
  go_wp2_with fail
  refine (TO.out _).mono ?_
  rintro e w2 ⟨rfl, kk⟩
  have K2 := Lib.hid ((show Kp W0 _ from (by first | with_reducible exact K1.out | with_reducible exact K1.out.trans (Kp.alloc _ _) | with_reducible exact (K1.out.trans (Kp.alloc _ _)).trans (Kp.alloc _ _) | with_reducible exact ((K1.out.trans (Kp.alloc _ _)).trans (Kp.alloc _ _)).trans (Kp.alloc _ _) | with_reducible exact K1.out.trans (Kp.drew _) | with_reducible exact K1.out.trans (Kp.drewN _ _))).trans kk)
  clear kk
  clear c0 c1 c2 c3 c4 c5
  obtain ⟨c0, c1, c2, c3, c4, c5⟩ := HB.out w2 K2.out
  obtain ⟨w3, hV⟩ : ∃ x, x = w2.alloc (.cells #[.int .i64 0, .int .i64 kp, .string yp, .string mp, .string dp, .bool ask, .bool true, .slice none 0 0] 26) := ⟨_, rfl⟩
  have ka : Kp w2 w3 := by rw [hV]; exact Kp.alloc _ _
  have hgq : w3.heap[w2.heap.size]? = some (.cells #[.int .i64 0, .int .i64 kp, .string yp, .string mp, .string dp, .bool ask, .bool true, .slice none 0 0] 26 (0, 0)) := by rw [hV]; exact heap_at _ _ _ rfl
  have q0 : w3.cell? ⟨w2.heap.size, 0, none⟩ = some (.int .i64 0) := by simp [World.cell?, hgq]
  have q1 : w3.cell? ⟨w2.heap.size, 1, none⟩ = some (.int .i64 kp) := by simp [World.cell?, hgq]
  have q2 : w3.cell? ⟨w2.heap.size, 2, none⟩ = some (.string yp) := by simp [World.cell?, hgq]
  have q3 : w3.cell? ⟨w2.heap.size, 3, none⟩ = some (.string mp) := by simp [World.cell?, hgq]
  have q4 : w3.cell? ⟨w2.heap.size, 4, none⟩ = some (.string dp) := by simp [World.cell?, hgq]
  have q5 : w3.cell? ⟨w2.heap.size, 5, none⟩ = some (.bool ask) := by simp [World.cell?, hgq]
  have q6 : w3.cell? ⟨w2.heap.size, 6, none⟩ = some (.bool true) := by simp [World.cell?, hgq]
  have q7 : w3.cell? ⟨w2.heap.size, 7, none⟩ = some (.slice none 0 0) := by simp [World.cell?, hgq]
  have HB2 := Lib.hid (fun w1 (k : Kp w3 w1) => show w1.cell? ⟨w.heap.size, 0, none⟩ = some (.int .i64 kp) ∧ w1.cell? ⟨w.heap.size, 1, none⟩ = some (.string yp) ∧ w1.cell? ⟨w.heap.size, 2, none⟩ = some (.string mp) ∧ w1.cell? ⟨w.heap.size, 3, none⟩ = some (.string dp) ∧ w1.cell? ⟨w.heap.size + 1, 0, none⟩ = some (.int .i64 qS) ∧ w1.cell? ⟨w.heap.size + 1, 1, none⟩ = some (.int .i64 qE) ∧ w1.cell? ⟨w2.heap.size, 0, none⟩ = some (.int .i64 0) ∧ w1.cell? ⟨w2.heap.size, 1, none⟩ = some (.int .i64 kp) ∧ w1.cell? ⟨w2.heap.size, 2, none⟩ = some (.string yp) ∧ w1.cell? ⟨w2.heap.size, 3, none⟩ = some (.string mp) ∧ w1.cell? ⟨w2.heap.size, 4, none⟩ = some (.string dp) ∧ w1.cell? ⟨w2.heap.size, 5, none⟩ = some (.bool ask) ∧ w1.cell? ⟨w2.heap.size, 6, none⟩ = some (.bool true) ∧ w1.cell? ⟨w2.heap.size, 7, none⟩ = some (.slice none 0 0) from ⟨(HB.out w1 (K2.out.trans (ka.trans k))).1, (HB.out w1 (K2.out.trans (ka.trans k))).2.1, (HB.out w1 (K2.out.trans (ka.trans k))).2.2.1, (HB.out w1 (K2.out.trans (ka.trans k))).2.2.2.1, (HB.out w1 (K2.out.trans (ka.trans k))).2.2.2.2.1, (HB.out w1 (K2.out.trans (ka.trans k))).2.2.2.2.2, cell_up k q0, cell_up k q1, cell_up k q2, cell_up k q3, cell_up k q4, cell_up k q5, cell_up k q6, cell_up k q7⟩)
  have K01 := Lib.hid (K00.out.trans (K2.out.trans ka))
  clear HB K00 hgq c0 c1 c2 c3 c4 c5 q0 q1 q2 q3 q4 q5 q6 q7
  have HB := HB2
  have K00 := K01
  clear HB2 K01
  have K3 := Lib.hid (Kp.refl w3)
  have Hw3 := Lib.hid hV
  clear hV ka
  go_wp2_with fail
  rw [← Hw3.out]
  obtain ⟨c0, c1, c2, c3, c4, c5, c6, c7, c8, c9, c10, c11, c12, c13⟩ := HB.out w3 (Kp.refl _)
  go_wp2_with fail
  refine (SM.out _).mono ?_
  rintro e w4 ⟨⟨b, hb, rfl⟩, kk⟩
  have K4 := Lib.hid ((show Kp w3 _ from (by first | with_reducible exact K3.out | with_reducible exact K3.out.trans (Kp.alloc _ _) | with_reducible exact (K3.out.trans (Kp.alloc _ _)).trans (Kp.alloc _ _) | with_reducible exact ((K3.out.trans (Kp.alloc _ _)).trans (Kp.alloc _ _)).trans (Kp.alloc _ _) | with_reducible exact K3.out.trans (Kp.drew _) | with_reducible exact K3.out.trans (Kp.drewN _ _))).trans kk)
  clear kk c0 c1 c2 c3 c4 c5 c6 c7 c8 c9 c10 c11 c12 c13
  obtain ⟨c0, c1, c2, c3, c4, c5, c6, c7, c8, c9, c10, c11, c12, c13⟩ := HB.out w4 K4.out
  rcases hb with rfl | rfl
  rotate_left
  · go_wp2
    go_ret
    exact ⟨rfl, K00.out.trans K4.out⟩
  go_wp2_with fail
  refine (FW.out _).mono ?_
  rintro e w5 ⟨rfl, kk⟩
  have K5 := Lib.hid ((show Kp w3 _ from (by first | with_reducible exact K4.out | with_reducible exact K4.out.trans (Kp.alloc _ _) | with_reducible exact (K4.out.trans (Kp.alloc _ _)).trans (Kp.alloc _ _) | with_reducible exact ((K4.out.trans (Kp.alloc _ _)).trans (Kp.alloc _ _)).trans (Kp.alloc _ _) | with_reducible exact K4.out.trans (Kp.drew _) | with_reducible exact K4.out.trans (Kp.drewN _ _))).trans kk)
  clear kk
  clear c0 c1 c2 c3 c4 c5 c6 c7 c8 c9 c10 c11 c12 c13
  obtain ⟨c0, c1, c2, c3, c4, c5, c6, c7, c8, c9, c10, c11, c12, c13⟩ := HB.out w5 K5.out
  cases fb with
  | false =>
    go_wp2
    go_ret
    exact ⟨rfl, K00.out.trans K5.out⟩
  | true =>
    go_wp2_with fail
    refine (SN.out _ (K00.out.trans (by first | with_reducible exact K5.out | with_reducible exact K5.out.trans (Kp.alloc _ _) | with_reducible exact (K5.out.trans (Kp.alloc _ _)).trans (Kp.alloc _ _) | with_reducible exact ((K5.out.trans (Kp.alloc _ _)).trans (Kp.alloc _ _)).trans (Kp.alloc _ _) | with_reducible exact K5.out.trans (Kp.drew _) | with_reducible exact K5.out.trans (Kp.drewN _ _)))).mono ?_
    rintro e w6 ⟨rfl, kk⟩
    have K6 := Lib.hid ((show Kp w3 _ from (by first | with_reducible exact K5.out | with_reducible exact K5.out.trans (Kp.alloc _ _) | with_reducible exact (K5.out.trans (Kp.alloc _ _)).trans (Kp.alloc _ _) | with_reducible exact ((K5.out.trans (Kp.alloc _ _)).trans (Kp.alloc _ _)).trans (Kp.alloc _ _) | with_reducible exact K5.out.trans (Kp.drew _) | with_reducible exact K5.out.trans (Kp.drewN _ _))).trans kk)
    clear kk
    clear c0 c1 c2 c3 c4 c5 c6 c7 c8 c9 c10 c11 c12 c13
    obtain ⟨c0, c1, c2, c3, c4, c5, c6, c7, c8, c9, c10, c11, c12, c13⟩ := HB.out w6 K6.out
    go_wp2_with fail
    refine (OF.out _ (K00.out.trans (by first | with_reducible exact K6.out | with_reducible exact K6.out.trans (Kp.alloc _ _) | with_reducible exact (K6.out.trans (Kp.alloc _ _)).trans (Kp.alloc _ _) | with_reducible exact ((K6.out.trans (Kp.alloc _ _)).trans (Kp.alloc _ _)).trans (Kp.alloc _ _) | with_reducible exact K6.out.trans (Kp.drew _) | with_reducible exact K6.out.trans (Kp.drewN _ _)))).mono ?_
    rintro e w7 ⟨v7, rfl, h7, kk⟩
    have K7 := Lib.hid ((show Kp w3 _ from (by first | with_reducible exact K6.out | with_reducible exact K6.out.trans (Kp.alloc _ _) | with_reducible exact (K6.out.trans (Kp.alloc _ _)).trans (Kp.alloc _ _) | with_reducible exact ((K6.out.trans (Kp.alloc _ _)).trans (Kp.alloc _ _)).trans (Kp.alloc _ _) | with_reducible exact K6.out.trans (Kp.drew _) | with_reducible exact K6.out.trans (Kp.drewN _ _))).trans kk)
    have LV := Lib.hid h7
    obtain ⟨ad7, cp7, rfl⟩ := h7.slice
    clear kk h7
    clear c0 c1 c2 c3 c4 c5 c6 c7 c8 c9 c10 c11 c12 c13
    obtain ⟨c0, c1, c2, c3, c4, c5, c6, c7, c8, c9, c10, c11, c12, c13⟩ := HB.out w7 K7.out
    go_wp2_with fail
    refine (PS.out _ (K00.out.trans (by first | with_reducible exact K7.out | with_reducible exact K7.out.trans (Kp.alloc _ _) | with_reducible exact (K7.out.trans (Kp.alloc _ _)).trans (Kp.alloc _ _) | with_reducible exact ((K7.out.trans (Kp.alloc _ _)).trans (Kp.alloc _ _)).trans (Kp.alloc _ _) | with_reducible exact K7.out.trans (Kp.drew _) | with_reducible exact K7.out.trans (Kp.drewN _ _)))).mono ?_
    rintro e w8 ⟨v8, rfl, own8, kk⟩
    have K8 := Lib.hid ((show Kp w3 _ from (by first | with_reducible exact K7.out | with_reducible exact K7.out.trans (Kp.alloc _ _) | with_reducible exact (K7.out.trans (Kp.alloc _ _)).trans (Kp.alloc _ _) | with_reducible exact ((K7.out.trans (Kp.alloc _ _)).trans (Kp.alloc _ _)).trans (Kp.alloc _ _) | with_reducible exact K7.out.trans (Kp.drew _) | with_reducible exact K7.out.trans (Kp.drewN _ _))).trans kk)
    have LV8 := Lib.hid (LV.out.kp kk)
    obtain ⟨ad8, cp8, rfl⟩ := own_slice own8
    clear kk own8
    clear c0 c1 c2 c3 c4 c5 c6 c7 c8 c9 c10 c11 c12 c13
    obtain ⟨c0, c1, c2, c3, c4, c5, c6, c7, c8, c9, c10, c11, c12, c13⟩ := HB.out w8 K8.out
    go_wp2_with fail
    refine (PN.out _ (K00.out.trans (by first | with_reducible exact K8.out | with_reducible exact K8.out.trans (Kp.alloc _ _) | with_reducible exact (K8.out.trans (Kp.alloc _ _)).trans (Kp.alloc _ _) | with_reducible exact ((K8.out.trans (Kp.alloc _ _)).trans (Kp.alloc _ _)).trans (Kp.alloc _ _) | with_reducible exact K8.out.trans (Kp.drew _) | with_reducible exact K8.out.trans (Kp.drewN _ _)))).mono ?_
    rintro e w9 ⟨v9, rfl, own9, kk⟩
    have K9 := Lib.hid ((show Kp w3 _ from (by first | with_reducible exact K8.out | with_reducible exact K8.out.trans (Kp.alloc _ _) | with_reducible exact (K8.out.trans (Kp.alloc _ _)).trans (Kp.alloc _ _) | with_reducible exact ((K8.out.trans (Kp.alloc _ _)).trans (Kp.alloc _ _)).trans (Kp.alloc _ _) | with_reducible exact K8.out.trans (Kp.drew _) | with_reducible exact K8.out.trans (Kp.drewN _ _))).trans kk)
    have LV9 := Lib.hid (LV8.out.kp kk)
    have RU := Lib.hid (runsAt_own own9)
    obtain ⟨ad9, cp9, rfl⟩ := own_slice own9
    clear kk own9
    clear c0 c1 c2 c3 c4 c5 c6 c7 c8 c9 c10 c11 c12 c13
    obtain ⟨c0, c1, c2, c3, c4, c5, c6, c7, c8, c9, c10, c11, c12, c13⟩ := HB.out w9 K9.out
    go_wp2_with fail
    refine (TO2.out _).mono ?_
    rintro e w10 ⟨rfl, kk⟩
    have K10 := Lib.hid ((show Kp w3 _ from (by first | with_reducible exact K9.out | with_reducible exact K9.out.trans (Kp.alloc _ _) | with_reducible exact (K9.out.trans (Kp.alloc _ _)).trans (Kp.alloc _ _) | with_reducible exact ((K9.out.trans (Kp.alloc _ _)).trans (Kp.alloc _ _)).trans (Kp.alloc _ _) | with_reducible exact K9.out.trans (Kp.drew _) | with_reducible exact K9.out.trans (Kp.drewN _ _))).trans kk)
    have LV10 := Lib.hid (LV9.out.kp kk)
    have RU10 := Lib.hid (RU.out.kp kk)
    clear kk
    clear c0 c1 c2 c3 c4 c5 c6 c7 c8 c9 c10 c11 c12 c13
    obtain ⟨c0, c1, c2, c3, c4, c5, c6, c7, c8, c9, c10, c11, c12, c13⟩ := HB.out w10 K10.out
    go_wp2_with fail
    refine (OG.out _ (K00.out.trans (by first | with_reducible exact K10.out | with_reducible exact K10.out.trans (Kp.alloc _ _) | with_reducible exact (K10.out.trans (Kp.alloc _ _)).trans (Kp.alloc _ _) | with_reducible exact ((K10.out.trans (Kp.alloc _ _)).trans (Kp.alloc _ _)).trans (Kp.alloc _ _) | with_reducible exact K10.out.trans (Kp.drew _) | with_reducible exact K10.out.trans (Kp.drewN _ _)))).mono ?_
    rintro e w11 ⟨va, rfl, ha, kk⟩
    have K11 := Lib.hid ((show Kp w3 _ from (by first | with_reducible exact K10.out | with_reducible exact K10.out.trans (Kp.alloc _ _) | with_reducible exact (K10.out.trans (Kp.alloc _ _)).trans (Kp.alloc _ _) | with_reducible exact ((K10.out.trans (Kp.alloc _ _)).trans (Kp.alloc _ _)).trans (Kp.alloc _ _) | with_reducible exact K10.out.trans (Kp.drew _) | with_reducible exact K10.out.trans (Kp.drewN _ _))).trans kk)
    have LVB := Lib.hid (LV10.out.kp kk)
    have RUB := Lib.hid (RU10.out.kp kk)
    obtain ⟨ada, cpa, rfl⟩ := ha.slice
    clear kk ha
    clear c0 c1 c2 c3 c4 c5 c6 c7 c8 c9 c10 c11 c12 c13
    obtain ⟨c0, c1, c2, c3, c4, c5, c6, c7, c8, c9, c10, c11, c12, c13⟩ := HB.out w11 K11.out
    have KS := Lib.hid (fun w' (kq : Kp w11 w') => show w'.cell? ⟨w.heap.size, 0, none⟩ = some (.int .i64 kp) ∧ w'.cell? ⟨w.heap.size, 1, none⟩ = some (.string yp) ∧ w'.cell? ⟨w.heap.size, 2, none⟩ = some (.string mp) ∧ w'.cell? ⟨w.heap.size, 3, none⟩ = some (.string dp) ∧ w'.cell? ⟨w.heap.size + 1, 0, none⟩ = some (.int .i64 qS) ∧ w'.cell? ⟨w.heap.size + 1, 1, none⟩ = some (.int .i64 qE) ∧ w'.cell? ⟨w2.heap.size, 0, none⟩ = some (.int .i64 0) ∧ w'.cell? ⟨w2.heap.size, 1, none⟩ = some (.int .i64 kp) ∧ w'.cell? ⟨w2.heap.size, 2, none⟩ = some (.string yp) ∧ w'.cell? ⟨w2.heap.size, 3, none⟩ = some (.string mp) ∧ w'.cell? ⟨w2.heap.size, 4, none⟩ = some (.string dp) ∧ w'.cell? ⟨w2.heap.size, 5, none⟩ = some (.bool ask) ∧ w'.cell? ⟨w2.heap.size, 6, none⟩ = some (.bool true) ∧ w'.cell? ⟨w2.heap.size, 7, none⟩ = some (.slice none 0 0) ∧ Kp w11 w' from ⟨(HB.out w' (K11.out.trans kq)).1, (HB.out w' (K11.out.trans kq)).2.1, (HB.out w' (K11.out.trans kq)).2.2.1, (HB.out w' (K11.out.trans kq)).2.2.2.1, (HB.out w' (K11.out.trans kq)).2.2.2.2.1, (HB.out w' (K11.out.trans kq)).2.2.2.2.2.1, (HB.out w' (K11.out.trans kq)).2.2.2.2.2.2.1, (HB.out w' (K11.out.trans kq)).2.2.2.2.2.2.2.1, (HB.out w' (K11.out.trans kq)).2.2.2.2.2.2.2.2.1, (HB.out w' (K11.out.trans kq)).2.2.2.2.2.2.2.2.2.1, (HB.out w' (K11.out.trans kq)).2.2.2.2.2.2.2.2.2.2.1, (HB.out w' (K11.out.trans kq)).2.2.2.2.2.2.2.2.2.2.2.1, (HB.out w' (K11.out.trans kq)).2.2.2.2.2.2.2.2.2.2.2.2.1, (HB.out w' (K11.out.trans kq)).2.2.2.2.2.2.2.2.2.2.2.2.2, kq⟩)
    go_wp2_with fail
    refine wp_region_held_drew (S := fun w' => w'.cell? ⟨w.heap.size, 0, none⟩ = some (.int .i64 kp) ∧ w'.cell? ⟨w.heap.size, 1, none⟩ = some (.string yp) ∧ w'.cell? ⟨w.heap.size, 2, none⟩ = some (.string mp) ∧ w'.cell? ⟨w.heap.size, 3, none⟩ = some (.string dp) ∧ w'.cell? ⟨w.heap.size + 1, 0, none⟩ = some (.int .i64 qS) ∧ w'.cell? ⟨w.heap.size + 1, 1, none⟩ = some (.int .i64 qE) ∧ w'.cell? ⟨w2.heap.size, 0, none⟩ = some (.int .i64 0) ∧ w'.cell? ⟨w2.heap.size, 1, none⟩ = some (.int .i64 kp) ∧ w'.cell? ⟨w2.heap.size, 2, none⟩ = some (.string yp) ∧ w'.cell? ⟨w2.heap.size, 3, none⟩ = some (.string mp) ∧ w'.cell? ⟨w2.heap.size, 4, none⟩ = some (.string dp) ∧ w'.cell? ⟨w2.heap.size, 5, none⟩ = some (.bool ask) ∧ w'.cell? ⟨w2.heap.size, 6, none⟩ = some (.bool true) ∧ w'.cell? ⟨w2.heap.size, 7, none⟩ = some (.slice none 0 0) ∧ Kp w11 w') (by kernel_rfl) ?_ (fun hHeld0 => ?_)
    · (try dsimp only); exact KS.out _ (by first | assumption | exact Kp.drew _)
    refine tkW (v := ?_) 0 ptA0 rfl (by kernel_rfl) (by kernel_rfl) (by kernel_rfl) (fun _ _ _ h => h) (by rfl) ?_ (by assumption) ?_
    rotate_left
    · intro w hSw; (try dsimp only at hSw); go_simp; (try with_reducible rfl)
    (try simp only [Act.put, ptA0, List.setIfInBounds_toArray, List.set_cons_zero, List.set_cons_succ])
    refine tkW (v := ?_) 1 ptA1 rfl (by kernel_rfl) (by kernel_rfl) (by kernel_rfl) (fun _ _ _ h => h) (by rfl) ?_ (by assumption) ?_
    rotate_left
    · intro w hSw; (try dsimp only at hSw); go_simp; (try with_reducible rfl)
    (try simp only [Act.put, ptA1, List.setIfInBounds_toArray, List.set_cons_zero, List.set_cons_succ])
    refine tkW (v := ?_) 2 ptA2 rfl (by kernel_rfl) (by kernel_rfl) (by kernel_rfl) (fun _ _ _ h => h) (by rfl) ?_ (by assumption) ?_
    rotate_left
    · intro w hSw; (try dsimp only at hSw); go_simp; (try with_reducible rfl)
    (try simp only [Act.put, ptA2, List.setIfInBounds_toArray, List.set_cons_zero, List.set_cons_succ])
    refine tkW (v := ?_) 3 ptA3 rfl (by kernel_rfl) (by kernel_rfl) (by kernel_rfl) (fun _ _ _ h => h) (by rfl) ?_ (by assumption) ?_
    rotate_left
    · intro w hSw; (try dsimp only at hSw); go_simp; (try with_reducible rfl)
    (try simp only [Act.put, ptA3, List.setIfInBounds_toArray, List.set_cons_zero, List.set_cons_succ])
    refine tkW (v := ?_) 4 ptA4 rfl (by kernel_rfl) (by kernel_rfl) (by kernel_rfl) (fun _ _ _ h => h) (by rfl) ?_ (by assumption) ?_
    rotate_left
    · intro w hSw; (try dsimp only at hSw); go_simp; (try with_reducible rfl)
    (try simp only [Act.put, ptA4, List.setIfInBounds_toArray, List.set_cons_zero, List.set_cons_succ])
    refine tkW (v := ?_) 5 ptA5 rfl (by kernel_rfl) (by kernel_rfl) (by kernel_rfl) (fun _ _ _ h => h) (by rfl) ?_ (by assumption) ?_
    rotate_left
    · intro w hSw; (try dsimp only at hSw); go_simp; (try with_reducible rfl)
    (try simp only [Act.put, ptA5, List.setIfInBounds_toArray, List.set_cons_zero, List.set_cons_succ])
    refine tkW (v := ?_) 6 ptA6 rfl (by kernel_rfl) (by kernel_rfl) (by kernel_rfl) (fun _ _ _ h => h) (by rfl) ?_ (by assumption) ?_
    rotate_left
    · intro w hSw; (try dsimp only at hSw); go_simp; (try with_reducible rfl)
    (try simp only [Act.put, ptA6, List.setIfInBounds_toArray, List.set_cons_zero, List.set_cons_succ])
    refine tkW (v := ?_) 7 ptA7 rfl (by kernel_rfl) (by kernel_rfl) (by kernel_rfl) (fun _ _ _ h => h) (by rfl) ?_ (by assumption) ?_
    rotate_left
    · intro w hSw; (try dsimp only at hSw); go_simp; (try with_reducible rfl)
    (try simp only [Act.put, ptA7, List.setIfInBounds_toArray, List.set_cons_zero, List.set_cons_succ])
    refine tkW (v := ?_) 8 ptA8 rfl (by kernel_rfl) (by kernel_rfl) (by kernel_rfl) (fun _ _ _ h => h) (by rfl) ?_ (by assumption) ?_
    rotate_left
    · intro w hSw; (try dsimp only at hSw); go_simp; (try with_reducible rfl)
    (try simp only [Act.put, ptA8, List.setIfInBounds_toArray, List.set_cons_zero, List.set_cons_succ])
    refine tkW (v := ?_) 9 ptA9 rfl (by kernel_rfl) (by kernel_rfl) (by kernel_rfl) (fun _ _ _ h => h) (by rfl) ?_ (by assumption) ?_
    rotate_left
    · intro w hSw; (try dsimp only at hSw); go_simp; (try with_reducible rfl)
    (try simp only [Act.put, ptA9, List.setIfInBounds_toArray, List.set_cons_zero, List.set_cons_succ])
    refine tkW (v := ?_) 10 ptA10 rfl (by kernel_rfl) (by kernel_rfl) (by kernel_rfl) (fun _ _ _ h => h) (by rfl) ?_ (by assumption) ?_
    rotate_left
    · intro w hSw; (try dsimp only at hSw); go_simp; (try with_reducible rfl)
    (try simp only [Act.put, ptA10, List.setIfInBounds_toArray, List.set_cons_zero, List.set_cons_succ])
    refine tkW (v := ?_) 11 ptA11 rfl (by kernel_rfl) (by kernel_rfl) (by kernel_rfl) (fun _ _ _ h => h) (by rfl) ?_ (by assumption) ?_
    rotate_left
    · intro w hSw; (try dsimp only at hSw); go_simp; (try with_reducible rfl)
    (try simp only [Act.put, ptA11, List.setIfInBounds_toArray, List.set_cons_zero, List.set_cons_succ])
    refine tkW (v := ?_) 12 ptA12 rfl (by kernel_rfl) (by kernel_rfl) (by kernel_rfl) (fun _ _ _ h => h) (by rfl) ?_ (by assumption) ?_
    rotate_left
    · intro w hSw; (try dsimp only at hSw); go_simp; (try with_reducible rfl)
    (try simp only [Act.put, ptA12, List.setIfInBounds_toArray, List.set_cons_zero, List.set_cons_succ])
    refine tkW (v := ?_) 13 ptA13 rfl (by kernel_rfl) (by kernel_rfl) (by kernel_rfl) (fun _ _ _ h => h) (by rfl) ?_ (by assumption) ?_
    rotate_left
    · intro w hSw; (try dsimp only at hSw); go_simp; (try with_reducible rfl)
    (try simp only [Act.put, ptA13, List.setIfInBounds_toArray, List.set_cons_zero, List.set_cons_succ])
    refine tkW (v := ?_) 14 ptA14 rfl (by kernel_rfl) (by kernel_rfl) (by kernel_rfl) (fun _ _ _ h => h) (by rfl) ?_ (by assumption) ?_
    rotate_left
    · intro w hSw; (try dsimp only at hSw); go_simp; (try with_reducible rfl)
    (try simp only [Act.put, ptA14, List.setIfInBounds_toArray, List.set_cons_zero, List.set_cons_succ])
    refine tkW (v := ?_) 15 ptA15 rfl (by kernel_rfl) (by kernel_rfl) (by kernel_rfl) (fun _ _ _ h => h) (by rfl) ?_ (by assumption) ?_
    rotate_left
    · intro w hSw; (try dsimp only at hSw); go_simp; (try with_reducible rfl)
    (try simp only [Act.put, ptA15, List.setIfInBounds_toArray, List.set_cons_zero, List.set_cons_succ])
    refine tkW (v := ?_) 17 ptA17 rfl (by kernel_rfl) (by kernel_rfl) (by kernel_rfl) (fun _ _ _ h => h) (by rfl) ?_ (by assumption) ?_
    rotate_left
    · intro w hSw; (try dsimp only at hSw); go_simp; (try with_reducible rfl)
    (try simp only [Act.put, ptA17, List.setIfInBounds_toArray, List.set_cons_zero, List.set_cons_succ])
    refine tkW (v := ?_) 18 ptA18 rfl (by kernel_rfl) (by kernel_rfl) (by kernel_rfl) (fun _ _ _ h => h) (by rfl) ?_ (by assumption) ?_
    rotate_left
    · intro w hSw; (try dsimp only at hSw); go_simp; (try with_reducible rfl)
    (try simp only [Act.put, ptA18, List.setIfInBounds_toArray, List.set_cons_zero, List.set_cons_succ])
    refine tkW (v := ?_) 19 ptA19 rfl (by kernel_rfl) (by kernel_rfl) (by kernel_rfl) (fun _ _ _ h => h) (by rfl) ?_ (by assumption) ?_
    rotate_left
    · intro w hSw; (try dsimp only at hSw); go_simp; (try with_reducible rfl)
    (try simp only [Act.put, ptA19, List.setIfInBounds_toArray, List.set_cons_zero, List.set_cons_succ])
    refine tkW (v := ?_) 20 ptA20 rfl (by kernel_rfl) (by kernel_rfl) (by kernel_rfl) (fun _ _ _ h => h) (by rfl) ?_ (by assumption) ?_
    rotate_left
    · intro w hSw; (try dsimp only at hSw); go_simp; (try with_reducible rfl)
    (try simp only [Act.put, ptA20, List.setIfInBounds_toArray, List.set_cons_zero, List.set_cons_succ])
    refine tkW (v := ?_) 21 ptA21 rfl (by kernel_rfl) (by kernel_rfl) (by kernel_rfl) (fun _ _ _ h => h) (by rfl) ?_ (by assumption) ?_
    rotate_left
    · intro w hSw; (try dsimp only at hSw); go_simp; (try with_reducible rfl)
    (try simp only [Act.put, ptA21, List.setIfInBounds_toArray, List.set_cons_zero, List.set_cons_succ])
    refine tkE 16 ptA16 rfl (by kernel_rfl) (fun K hK => ?_)
    go_simp
    (refine (HC.out _ _ (LVB.out.kp (by first | assumption | exact Kp.drew _)) (K00.out.trans (K11.out.trans (by first | assumption | exact Kp.drew _)))).mono ?_; rintro e wx ⟨rfl, k1⟩; have k2 := Kp.trans (show Kp w11 _ from (by first | assumption | exact Kp.drew _)) k1; clear k1)
    (try go_wp2_with fail)
    refine hK.out _ _ ?_ (fun hHeld1 => ?_)
    · (try dsimp only); exact KS.out _ (by first | assumption | exact Kp.drew _)
    clear hK K hHeld0
    (try simp only [Act.put, ptA16, List.setIfInBounds_toArray, List.set_cons_zero, List.set_cons_succ])
    refine tkE 22 ptA22 rfl (by kernel_rfl) (fun K hK => ?_)
    go_simp
    (refine (LH.out _ _ _ (RUB.out.kp (by first | assumption | exact Kp.drew _)) (K00.out.trans (K11.out.trans (by first | assumption | exact Kp.drew _)))).mono ?_; rintro e wy ⟨rfl, k1⟩; have k2 := Kp.trans (show Kp w11 _ from (by first | assumption | exact Kp.drew _)) k1; clear k1)
    (try go_wp2_with fail)
    refine hK.out _ _ ?_ (fun hHeld2 => ?_)
    · (try dsimp only); exact KS.out _ (by first | assumption | exact Kp.drew _)
    clear hK K hHeld1
    (try simp only [Act.put, ptA22, List.setIfInBounds_toArray, List.set_cons_zero, List.set_cons_succ])
    refine tkW (v := ?_) 23 ptA23 rfl (by kernel_rfl) (by kernel_rfl) (by kernel_rfl) (fun _ _ _ h => h) (by rfl) ?_ (by assumption) ?_
    rotate_left
    · intro w hSw; (try dsimp only at hSw); go_simp; (try with_reducible rfl)
    (try simp only [Act.put, ptA23, List.setIfInBounds_toArray, List.set_cons_zero, List.set_cons_succ])
    refine tkW (v := ?_) 24 ptA24 rfl (by kernel_rfl) (by kernel_rfl) (by kernel_rfl) (fun _ _ _ h => h) (by rfl) ?_ (by assumption) ?_
    rotate_left
    · intro w hSw; (try dsimp only at hSw); go_simp; (try with_reducible rfl)
    (try simp only [Act.put, ptA24, List.setIfInBounds_toArray, List.set_cons_zero, List.set_cons_succ])
    refine tkW (v := ?_) 25 ptA25 rfl (by kernel_rfl) (by kernel_rfl) (by kernel_rfl) (fun _ _ _ h => h) (by rfl) ?_ (by assumption) ?_
    rotate_left
    · intro w hSw; (try dsimp only at hSw); go_simp; (try with_reducible rfl)
    (try simp only [Act.put, ptA25, List.setIfInBounds_toArray, List.set_cons_zero, List.set_cons_succ])
    refine tkW (v := ?_) 26 ptA26 rfl (by kernel_rfl) (by kernel_rfl) (by kernel_rfl) (fun _ _ _ h => h) (by rfl) ?_ (by assumption) ?_
    rotate_left
    · intro w hSw; (try dsimp only at hSw); go_simp; (try with_reducible rfl)
    (try simp only [Act.put, ptA26, List.setIfInBounds_toArray, List.set_cons_zero, List.set_cons_succ])
    refine tkW (v := ?_) 27 ptA27 rfl (by kernel_rfl) (by kernel_rfl) (by kernel_rfl) (fun _ _ _ h => h) (by rfl) ?_ (by assumption) ?_
    rotate_left
    · intro w hSw; (try dsimp only at hSw); go_simp; (try with_reducible rfl)
    (try simp only [Act.put, ptA27, List.setIfInBounds_toArray, List.set_cons_zero, List.set_cons_succ])
    refine wpAnyH_done (by kernel_rfl) ?_ _
    go_wp2
    go_ret
    exact ⟨rfl, K00.out.trans (K11.out.trans k2)⟩
theorem denotePoint_walk (p : PT) (ask tilde : Bool) (qS qE : Int) (w : World) (hp1 : -9223372036854775808 ≤ p.k) (hp2 : p.k ≤ 9223372036854775807) (hq1 : -9223372036854775808 ≤ qS) (hq2 : qS ≤ 9223372036854775807) (hq3 : -9223372036854775808 ≤ qE) (hq4 : qE ≤ 9223372036854775807) (T : Tabs8 w) :
    Calls Tryz.prog 5 #[ptV p, .bool ask, .bool tilde, .agg #[.int .i64 qS, .int .i64 qE]] w fun e w' => e = .returned (.bool true) ∧ Kp w w' := by
  rcases Bool.eq_false_or_eq_true (saneP p) with hs | hs
  · cases tilde
    · rcases unE_cases (.mk 0 p ask false []) hs with hu | hu
      · exact dpoint_yes_f p ask qS qE w hp1 hp2 hq1 hq2 hq3 hq4 T hs hu
      · exact dpoint_wide_f p ask qS qE w hp1 hp2 hq1 hq2 hq3 hq4 T hs hu
    · rcases unE_cases (.mk 0 p ask true []) hs with hu | hu
      · exact dpoint_yes_t p ask qS qE w hp1 hp2 hq1 hq2 hq3 hq4 T hs hu
      · exact dpoint_wide_t p ask qS qE w hp1 hp2 hq1 hq2 hq3 hq4 T hs hu
  · cases tilde
    · exact dpoint_no_f p ask qS qE w hp1 hp2 hq1 hq2 hq3 hq4 T hs
    · exact dpoint_no_t p ask qS qE w hp1 hp2 hq1 hq2 hq3 hq4 T hs
end Go.Proofs.YtmklpimaemogcaaGreatDoor

namespace Go.Proofs.YtmklpimaemogcaaGreatDoor.lawDenotePoint
open Go.ChangeShapes Go.WideShapes Go.ChangeAt Go.RowKit
open Go.ChangeMaps (open_string shut_string)
open Go.Joins
set_option linter.unusedVariables false

theorem own : ownKnob Tryz.prog.godebug = none := by kernel_rfl
theorem laidOut : laidOutB Tryz.prog = true := by kernel_rfl

theorem cells42 : Tryz.prog.cellsOf 42 = 2 := by kernel_rfl
/-- A world for the witness: the settled one, each table holding what its initialiser lays. -/
noncomputable def laidWorld (os : Os) : World :=
  { World.holding Tryz.prog os ⟨#[], #[], []⟩ with heap := (((((World.holding Tryz.prog os ⟨#[], #[], []⟩).heap.modify 3 fun
      | .cells _ t frozen => .cells #[.int .i64 0, .int .i64 31, .int .i64 28, .int .i64 31, .int .i64 30, .int .i64 31, .int .i64 30, .int .i64 31, .int .i64 31, .int .i64 30, .int .i64 31, .int .i64 30, .int .i64 31] t frozen
      | o => o).modify 0 fun
      | .cells _ t frozen => .cells #[.int .i64 3652425, .int .i64 120000, .int .i64 40000, .int .i64 10000, .int .i64 1000, .int .i64 100] t frozen
      | o => o).modify 1 fun
      | .cells _ t frozen => .cells #[.int .i64 4, .int .i64 2, .int .i64 2, .int .i64 12, .string ⟨#[]⟩, .int .i64 4, .int .i64 2, .int .i64 0, .int .i64 12, .string ⟨#[]⟩, .int .i64 4, .int .i64 1, .int .i64 0, .int .i64 4, .string ⟨#[]⟩, .int .i64 4, .int .i64 0, .int .i64 0, .int .i64 0, .string ⟨#[]⟩, .int .i64 3, .int .i64 0, .int .i64 0, .int .i64 0, .string ⟨#[100]⟩, .int .i64 2, .int .i64 0, .int .i64 0, .int .i64 0, .string ⟨#[99]⟩] t frozen
      | o => o).modify 2 fun
      | .cells _ t frozen => .cells #[.int .i64 3, .int .i64 1, .int .i64 1, .int .i64 2, .int .i64 1, .int .i64 1] t frozen
      | o => o) }
theorem laid_met (os : Os) : laidMet Tryz.prog Rows.denotePointRow.laid ((laidWorld os).forCall (fun _ _ => 0) ⟨#[], #[.agg #[.int .i64 0, .string ByteArray.empty, .string ByteArray.empty, .string ByteArray.empty], .bool false, .bool false, .agg #[.int .i64 0, .int .i64 0]], []⟩).memory :=
  laidMet_of_run' 8 (by kernel_rfl) (by kernel_rfl)
theorem reads (os : Os) {H : Type} (enc : TypeId × Value → H) : ∃ places, DataW.whole enc Tryz.prog ((laidWorld os).forCall (fun _ _ => 0) ⟨#[], #[.agg #[.int .i64 0, .string ByteArray.empty, .string ByteArray.empty, .string ByteArray.empty], .bool false, .bool false, .agg #[.int .i64 0, .int .i64 0]], []⟩).memory Tryz.f5.params.toList Rows.denotePointSpec.vars false (#[.agg #[.int .i64 0, .string ByteArray.empty, .string ByteArray.empty, .string ByteArray.empty], .bool false, .bool false, .agg #[.int .i64 0, .int .i64 0]] : Array Value).toList 8 = some ([.agg [.lit (.int .i64 0), .lit (.string []), .lit (.string []), .lit (.string [])], .lit (.bool false), .lit (.bool false), .agg [.lit (.int .i64 0), .lit (.int .i64 0)]], [], places) :=
  ⟨[], by kernel_rfl⟩

set_option maxRecDepth 100000 in
theorem contract (H : Type) (enc : TypeId × Value → H) (W : World) (base : Nat) (args : Array Value) (ds gs : List (DataW H)) (before : List MemPlace)
    (hval : ∀ (j : Nat) t v, Tryz.f5.params[j]? = some t → args[j]? = some v → Value.okWide Tryz.prog W .any base t v)
    (hW : DataW.Whole enc Tryz.prog Tryz.f5.params.toList Rows.denotePointSpec.vars false W args.toList ds gs before) (hL : laidMetH Tryz.prog Rows.denotePointRow.laid W) :
    Calls Tryz.prog 5 args W fun e W' => ∃ v, e = .returned v ∧ Rows.denotePointSpec.post enc Tryz.prog Tryz.f5 false true false false W args v W' := by
  have hW' := hW
  have hltA : ∀ x ∈ before, x.block < W.heap.size := fun x hx => by simpa using hW'.lt x hx
  obtain ⟨p, q, hA0, hV, rfl, hfz, hnd⟩ := hW
  have hA : DataW.TrodAll enc Tryz.prog W 0 (fun _ => true) true Tryz.f5.params.toList args.toList ds p := hA0
  rw [Tryz.params5] at hA hval
  obtain ⟨v0, vs0, d0, ds0, p0, q0, hargs, rfl, rfl, h0, r0⟩ := trodAll_cons hA
  obtain ⟨v1, vs1, d1, ds1, p1, q1, rfl, rfl, rfl, h1, r1⟩ := trodAll_cons r0
  obtain ⟨v2, vs2, d2, ds2, p2, q2, rfl, rfl, rfl, h2, r2⟩ := trodAll_cons r1
  obtain ⟨v3, vs3, d3, ds3, p3, q3, rfl, rfl, rfl, h3, r3⟩ := trodAll_cons r2
  obtain ⟨rfl, rfl, rfl⟩ := trodAll_nil r3
  obtain rfl : args = #[v0, v1, v2, v3] := by cases args; simp_all
  obtain ⟨rfl, rfl⟩ := trodVars_none hV
  have hk0 := h0
  obtain ⟨p0d, rfl, pl0, ph0, py0, pm0, pd0⟩ := open_point (hval 0 23 v0 rfl rfl) h0
  have hk1 := h1
  obtain ⟨a1, rfl, rfl, rfl⟩ := open_bool Tryz.underlying4 (hval 1 4 v1 rfl rfl) h1
  have hk2 := h2
  obtain ⟨a2, rfl, rfl, rfl⟩ := open_bool Tryz.underlying4 (hval 2 4 v2 rfl rfl) h2
  have hk3 := h3
  obtain ⟨c3, c3', y3, y3', m3, rfl, rfl, rfl, z3, z3'⟩ := open_agg2 Tryz.underlying42 (by kernel_rfl) cells42 (hval 3 42 v3 rfl rfl) h3
  obtain ⟨a3, e3, rfl, w3⟩ := DataW.trod_int Tryz.underlying3 z3
  obtain ⟨a3', e3', rfl, w3'⟩ := DataW.trod_int Tryz.underlying3 z3'
  simp at e3 e3'
  subst e3 e3'
  clear hA0
  simp only [List.append_nil] at hW'
  refine (denotePoint_walk p0d a1 a2 a3 a3' W pl0 ph0 (wf_bd w3).1 (wf_bd w3).2 (wf_bd w3').1 (wf_bd w3').2 (tabs_of hL)).mono fun e W' ⟨he, hg⟩ => ?_
  subst he
  have bel : Below W.heap.size W W' := hg
  exact ⟨_, rfl, _, _, _, [], _, [], hW', trodAll_mk1 (shut_bool Tryz.underlying4 _), (trodAll_cons_mk (Below.trod laidOut (by kernel_rfl) (of_decide_eq_true (by kernel_rfl)) hk0 bel (fun x hx => hltA x (by simp [hx]))) (trodAll_cons_mk (shut_bool Tryz.underlying4 _) (trodAll_cons_mk (shut_bool Tryz.underlying4 _) (trodAll_cons_mk (shut_agg2 (y0 := (.lit (.int .i64 a3), [])) (y1 := (.lit (.int .i64 a3'), [])) Tryz.underlying42 (by kernel_rfl) cells42 ⟨1, by simp [DataW.trod, Tryz.underlying3, w3]⟩ ⟨1, by simp [DataW.trod, Tryz.underlying3, w3']⟩) trodAll_mk0)))), rfl, bel.frame _, fun h => by cases h⟩

set_option maxRecDepth 100000 in
theorem lifted (os : Os) (started : os.Started) (H : Type) (enc : TypeId × Value → H) (F : Stop.Interp) :
    ReturnsInHanded {} Tryz.checked os 5 .any ((OpenSpec.ofChange Rows.denotePointSpec).preRow enc Tryz.prog Tryz.f5 Rows.denotePointRow.domain false Rows.denotePointRow.laid) (((OpenSpec.ofChange Rows.denotePointSpec).at F).post enc Tryz.prog Tryz.f5 false true false false) := by
  obtain ⟨places, hx⟩ := reads os enc
  refine returnsInHanded_of_row (C := Tryz.checked) (s := OpenSpec.ofChange Rows.denotePointSpec) own started (by kernel_rfl) Tryz.func5
    (witness_row_at (enc := enc) (C := Tryz.checked) false (laidWorld os) #[.agg #[.int .i64 0, .string ByteArray.empty, .string ByteArray.empty, .string ByteArray.empty], .bool false, .bool false, .agg #[.int .i64 0, .int .i64 0]] rfl (by kernel_rfl) (by kernel_rfl) (by kernel_rfl)
      (OpenSpec.preRow_of_cond 8 hx (by kernel_rfl) (fun k hk => by cases hk) (by kernel_rfl) (laid_met os))) ?_
  intro W base args ds gs before hval hW _ hcond _ hL _ _
  exact contract H enc W base args ds gs before hval hW hL

theorem said : Rows.DenotePointSaid :=
  OpenClaim.holds_of_cond 5 Tryz.f5 rfl rfl rfl rfl rfl rfl rfl ⟨rfl, rfl, rfl, rfl, rfl⟩ rfl rfl rfl rfl rfl (by kernel_rfl) Tryz.func5 (by kernel_rfl)
    (of_decide_eq_true (by kernel_rfl)) (by unfold Func.isWrapper; first | (rw [if_pos (by decide +kernel)]; kernel_rfl) | (rw [if_neg (by decide +kernel)]; exact ⟨rfl, rfl⟩))
    (fun os started H enc _ F => by rw [OpenClaim.pre_eq_preRow]; exact lifted os started H enc F)

theorem plain (f : FuncId) (fn : Func) (hf : Tryz.pinned.checked.prog.funcNamed "lustrum/lustrumlaw15.DenotePoint" = some f) (hfn : Tryz.pinned.checked.prog.funcs[f]? = some fn) :
    true = Tryz.pinned.checked.prog.looks [] ∧ ∀ (j : Nat) t, fn.params[j]? = some t → Tryz.pinned.checked.prog.wantsStandIn t = false := by
  obtain rfl : f = 5 := Option.some.inj ((show Tryz.prog.funcNamed "lustrum/lustrumlaw15.DenotePoint" = some 5 by kernel_rfl).symm.trans hf) |>.symm
  obtain rfl : fn = Tryz.f5 := (Option.some.inj (Tryz.func5.symm.trans hfn)).symm
  refine ⟨by kernel_rfl, fun j t ht => ?_⟩
  rw [Tryz.params5] at ht
  have hm := Array.mem_of_getElem? ht
  have ho : t = 23 ∨ t = 4 ∨ t = 42 := by first | simpa using hm | (simp at hm; rcases hm with h | h | h <;> simp [h])
  rcases ho with rfl | rfl | rfl
  · exact (show Tryz.prog.wantsStandIn 23 = false by kernel_rfl)
  · exact (show Tryz.prog.wantsStandIn 4 = false by kernel_rfl)
  · exact (show Tryz.prog.wantsStandIn 42 = false by kernel_rfl)

/-- THE CARD. -/
theorem proved : Rows.DenotePointCardSaid :=
  Claim7.holds_tied_plain_at .later [] _ _ _ _ said (fun _ h => by cases h) (by kernel_rfl) (fun _ h => by cases h) denotePoint_row_tie rfl ⟨rfl, rfl⟩ (by kernel_rfl) rfl plain (by kernel_rfl)
#print axioms proved
end Go.Proofs.YtmklpimaemogcaaGreatDoor.lawDenotePoint
