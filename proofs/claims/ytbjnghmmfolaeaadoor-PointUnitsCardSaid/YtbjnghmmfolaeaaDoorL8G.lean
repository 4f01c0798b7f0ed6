/-
  Layer 8: PointUnits, further.
-/
import Derived.Test.YtbjnghmmfolaeaaDoorL8E
import Derived.Test.YtbjnghmmfolaeaaDoorGL8
namespace Go.Proofs.YtbjnghmmfolaeaaDoor
open Go.RowKit
set_option linter.unusedVariables false
set_option linter.unusedSimpArgs false
abbrev uS0 : Oper := { dst := some 110, op := Go.Op.move (Go.Operand.tmp 5), type := 4, pos := "law.go:89", after := #[], guard := none }
abbrev uS1 : Oper := { dst := some 111, op := Go.Op.move (Go.Operand.tmp 110), type := 4, pos := "law.go:89", after := #[{ on := 0, ground := Go.Ground.data }], guard := none }
abbrev uS2 : Oper := { dst := some 112, op := Go.Op.move (Go.Operand.tmp 6), type := 30, pos := "law.go:89", after := #[{ on := 1, ground := Go.Ground.guard }], guard := some (1, true) }
abbrev uS3 : Oper := { dst := some 113, op := Go.Op.call { callee := Go.Callee.value (Go.Operand.func 24), args := #[Go.Operand.tmp 112], argTypes := #[30] }, type := 4, pos := "law.go:89", after := #[{ on := 2, ground := Go.Ground.data }, { on := 1, ground := Go.Ground.chain }, { on := 1, ground := Go.Ground.guard }], guard := some (1, true) }
abbrev uS4 : Oper := { dst := some 114, op := Go.Op.pick (Go.Operand.tmp 111) (Go.Operand.tmp 113) (Go.Operand.const (Go.Value.bool false)), type := 4, pos := "law.go:89", after := #[{ on := 1, ground := Go.Ground.data }, { on := 3, ground := Go.Ground.data }], guard := none }
abbrev uS5 : Oper := { dst := some 115, op := Go.Op.move (Go.Operand.tmp 114), type := 4, pos := "law.go:89", after := #[{ on := 4, ground := Go.Ground.data }, { on := 3, ground := Go.Ground.chain }], guard := none }
abbrev uS6 : Oper := { dst := some 116, op := Go.Op.move (Go.Operand.tmp 6), type := 30, pos := "law.go:89", after := #[{ on := 5, ground := Go.Ground.guard }], guard := some (5, true) }
abbrev uS7 : Oper := { dst := some 117, op := Go.Op.move (Go.Operand.tmp 1), type := 3, pos := "law.go:89", after := #[{ on := 5, ground := Go.Ground.guard }], guard := some (5, true) }
abbrev uS8 : Oper := { dst := some 118, op := Go.Op.call { callee := Go.Callee.value (Go.Operand.func 25), args := #[Go.Operand.tmp 116, Go.Operand.tmp 117], argTypes := #[30, 3] }, type := 4, pos := "law.go:89", after := #[{ on := 6, ground := Go.Ground.data }, { on := 7, ground := Go.Ground.data }, { on := 5, ground := Go.Ground.chain }, { on := 5, ground := Go.Ground.guard }], guard := some (5, true) }
abbrev uS9 : Oper := { dst := some 119, op := Go.Op.move (Go.Operand.tmp 8), type := 4, pos := "law.go:89", after := #[{ on := 5, ground := Go.Ground.guard }], guard := some (5, true) }
abbrev uS10 : Oper := { dst := some 120, op := Go.Op.binOp Go.BinOp.eql 4 (Go.Operand.tmp 118) (Go.Operand.tmp 119) 4, type := 4, pos := "law.go:89", after := #[{ on := 8, ground := Go.Ground.data }, { on := 9, ground := Go.Ground.data }, { on := 5, ground := Go.Ground.guard }], guard := some (5, true) }
abbrev uS11 : Oper := { dst := some 121, op := Go.Op.pick (Go.Operand.tmp 115) (Go.Operand.tmp 120) (Go.Operand.const (Go.Value.bool false)), type := 4, pos := "law.go:89", after := #[{ on := 5, ground := Go.Ground.data }, { on := 10, ground := Go.Ground.data }], guard := none }
abbrev uS12 : Oper := { dst := some 122, op := Go.Op.move (Go.Operand.tmp 121), type := 4, pos := "law.go:89", after := #[{ on := 11, ground := Go.Ground.data }, { on := 8, ground := Go.Ground.chain }], guard := none }
abbrev uS13 : Oper := { dst := some 123, op := Go.Op.move (Go.Operand.tmp 6), type := 30, pos := "law.go:89", after := #[{ on := 12, ground := Go.Ground.guard }], guard := some (12, true) }
abbrev uS14 : Oper := { dst := some 124, op := Go.Op.call { callee := Go.Callee.value (Go.Operand.func 26), args := #[Go.Operand.tmp 123], argTypes := #[30] }, type := 3, pos := "law.go:89", after := #[{ on := 13, ground := Go.Ground.data }, { on := 12, ground := Go.Ground.chain }, { on := 12, ground := Go.Ground.guard }], guard := some (12, true) }
abbrev uS15 : Oper := { dst := some 125, op := Go.Op.binOp Go.BinOp.eql 3 (Go.Operand.tmp 124) (Go.Operand.const (Go.Value.int Go.IntKind.i64 0)) 3, type := 4, pos := "law.go:89", after := #[{ on := 14, ground := Go.Ground.data }, { on := 12, ground := Go.Ground.guard }], guard := some (12, true) }
abbrev uS16 : Oper := { dst := some 126, op := Go.Op.move (Go.Operand.tmp 125), type := 4, pos := "law.go:89", after := #[{ on := 15, ground := Go.Ground.data }, { on := 14, ground := Go.Ground.chain }, { on := 12, ground := Go.Ground.guard }], guard := some (12, true) }
abbrev uS17 : Oper := { dst := some 127, op := Go.Op.move (Go.Operand.tmp 6), type := 30, pos := "law.go:89", after := #[{ on := 16, ground := Go.Ground.guard }], guard := some (16, false) }
abbrev uS18 : Oper := { dst := some 128, op := Go.Op.indexAddr 30 (Go.Operand.tmp 127) (Go.Operand.const (Go.Value.int Go.IntKind.i64 0)), type := 0, pos := "law.go:89", after := #[{ on := 17, ground := Go.Ground.data }, { on := 16, ground := Go.Ground.guard }], guard := some (16, false) }
abbrev uS19 : Oper := { dst := some 129, op := Go.Op.fieldAddr 41 (Go.Operand.tmp 128) 0, type := 0, pos := "law.go:89", after := #[{ on := 18, ground := Go.Ground.data }, { on := 16, ground := Go.Ground.guard }], guard := some (16, false) }
abbrev uS20 : Oper := { dst := some 130, op := Go.Op.load 3 (Go.Operand.tmp 129), type := 3, pos := "law.go:89", after := #[{ on := 19, ground := Go.Ground.data }, { on := 16, ground := Go.Ground.guard }], guard := some (16, false) }
abbrev uS21 : Oper := { dst := some 131, op := Go.Op.binOp Go.BinOp.geq 3 (Go.Operand.tmp 130) (Go.Operand.const (Go.Value.int Go.IntKind.i64 0)) 3, type := 4, pos := "law.go:89", after := #[{ on := 20, ground := Go.Ground.data }, { on := 16, ground := Go.Ground.guard }], guard := some (16, false) }
abbrev uS22 : Oper := { dst := some 132, op := Go.Op.move (Go.Operand.tmp 131), type := 4, pos := "law.go:89", after := #[{ on := 21, ground := Go.Ground.data }, { on := 16, ground := Go.Ground.chain }, { on := 16, ground := Go.Ground.guard }], guard := some (16, false) }
abbrev uS23 : Oper := { dst := some 133, op := Go.Op.move (Go.Operand.tmp 6), type := 30, pos := "law.go:89", after := #[{ on := 22, ground := Go.Ground.guard }], guard := some (22, true) }
abbrev uS24 : Oper := { dst := some 134, op := Go.Op.move (Go.Operand.tmp 6), type := 30, pos := "law.go:89", after := #[{ on := 22, ground := Go.Ground.guard }], guard := some (22, true) }
abbrev uS25 : Oper := { dst := some 135, op := Go.Op.call { callee := Go.Callee.builtin Go.Builtin.len, args := #[Go.Operand.tmp 134], argTypes := #[30] }, type := 3, pos := "law.go:89", after := #[{ on := 24, ground := Go.Ground.data }, { on := 22, ground := Go.Ground.guard }], guard := some (22, true) }
abbrev uS26 : Oper := { dst := some 136, op := Go.Op.binOp Go.BinOp.sub 3 (Go.Operand.tmp 135) (Go.Operand.const (Go.Value.int Go.IntKind.i64 1)) 3, type := 3, pos := "law.go:89", after := #[{ on := 25, ground := Go.Ground.data }, { on := 22, ground := Go.Ground.guard }], guard := some (22, true) }
abbrev uS27 : Oper := { dst := some 137, op := Go.Op.indexAddr 30 (Go.Operand.tmp 133) (Go.Operand.tmp 136), type := 0, pos := "law.go:89", after := #[{ on := 23, ground := Go.Ground.data }, { on := 26, ground := Go.Ground.data }, { on := 22, ground := Go.Ground.guard }], guard := some (22, true) }
abbrev uS28 : Oper := { dst := some 138, op := Go.Op.fieldAddr 41 (Go.Operand.tmp 137) 1, type := 0, pos := "law.go:89", after := #[{ on := 27, ground := Go.Ground.data }, { on := 22, ground := Go.Ground.guard }], guard := some (22, true) }
abbrev uS29 : Oper := { dst := some 139, op := Go.Op.load 3 (Go.Operand.tmp 138), type := 3, pos := "law.go:89", after := #[{ on := 28, ground := Go.Ground.data }, { on := 22, ground := Go.Ground.guard }], guard := some (22, true) }
abbrev uS30 : Oper := { dst := some 140, op := Go.Op.fieldAddr 23 (Go.Operand.tmp 2) 0, type := 0, pos := "law.go:89", after := #[{ on := 22, ground := Go.Ground.guard }], guard := some (22, true) }
abbrev uS31 : Oper := { dst := some 141, op := Go.Op.load 3 (Go.Operand.tmp 140), type := 3, pos := "law.go:89", after := #[{ on := 30, ground := Go.Ground.data }, { on := 22, ground := Go.Ground.guard }], guard := some (22, true) }
abbrev uS32 : Oper := { dst := some 142, op := Go.Op.call { callee := Go.Callee.value (Go.Operand.func 27), args := #[Go.Operand.tmp 141], argTypes := #[3] }, type := 3, pos := "law.go:89", after := #[{ on := 31, ground := Go.Ground.data }, { on := 22, ground := Go.Ground.chain }, { on := 22, ground := Go.Ground.guard }], guard := some (22, true) }
abbrev uS33 : Oper := { dst := some 143, op := Go.Op.binOp Go.BinOp.lss 3 (Go.Operand.tmp 139) (Go.Operand.tmp 142) 3, type := 4, pos := "law.go:89", after := #[{ on := 29, ground := Go.Ground.data }, { on := 32, ground := Go.Ground.data }, { on := 22, ground := Go.Ground.guard }], guard := some (22, true) }
abbrev uS34 : Oper := { dst := some 144, op := Go.Op.pick (Go.Operand.tmp 132) (Go.Operand.tmp 143) (Go.Operand.const (Go.Value.bool false)), type := 4, pos := "law.go:89", after := #[{ on := 22, ground := Go.Ground.data }, { on := 33, ground := Go.Ground.data }, { on := 16, ground := Go.Ground.guard }], guard := some (16, false) }
abbrev uS35 : Oper := { dst := some 145, op := Go.Op.pick (Go.Operand.tmp 126) (Go.Operand.const (Go.Value.bool true)) (Go.Operand.tmp 144), type := 4, pos := "law.go:89", after := #[{ on := 16, ground := Go.Ground.data }, { on := 34, ground := Go.Ground.data }, { on := 12, ground := Go.Ground.guard }], guard := some (12, true) }
abbrev uS36 : Oper := { dst := some 146, op := Go.Op.pick (Go.Operand.tmp 122) (Go.Operand.tmp 145) (Go.Operand.const (Go.Value.bool false)), type := 4, pos := "law.go:89", after := #[{ on := 12, ground := Go.Ground.data }, { on := 35, ground := Go.Ground.data }], guard := none }
abbrev uS37 : Oper := { dst := some 4, op := Go.Op.assign (Go.Operand.tmp 146), type := 4, pos := "law.go:89", after := #[{ on := 36, ground := Go.Ground.data }, { on := 32, ground := Go.Ground.chain }, { on := 0, ground := Go.Ground.phase }, { on := 1, ground := Go.Ground.phase }, { on := 2, ground := Go.Ground.phase }, { on := 3, ground := Go.Ground.phase }, { on := 4, ground := Go.Ground.phase }, { on := 5, ground := Go.Ground.phase }, { on := 6, ground := Go.Ground.phase }, { on := 7, ground := Go.Ground.phase }, { on := 8, ground := Go.Ground.phase }, { on := 9, ground := Go.Ground.phase }, { on := 10, ground := Go.Ground.phase }, { on := 11, ground := Go.Ground.phase }, { on := 12, ground := Go.Ground.phase }, { on := 13, ground := Go.Ground.phase }, { on := 14, ground := Go.Ground.phase }, { on := 15, ground := Go.Ground.phase }, { on := 16, ground := Go.Ground.phase }, { on := 17, ground := Go.Ground.phase }, { on := 18, ground := Go.Ground.phase }, { on := 19, ground := Go.Ground.phase }, { on := 20, ground := Go.Ground.phase }, { on := 21, ground := Go.Ground.phase }, { on := 22, ground := Go.Ground.phase }, { on := 23, ground := Go.Ground.phase }, { on := 24, ground := Go.Ground.phase }, { on := 25, ground := Go.Ground.phase }, { on := 26, ground := Go.Ground.phase }, { on := 27, ground := Go.Ground.phase }, { on := 28, ground := Go.Ground.phase }, { on := 29, ground := Go.Ground.phase }, { on := 30, ground := Go.Ground.phase }, { on := 31, ground := Go.Ground.phase }, { on := 32, ground := Go.Ground.phase }, { on := 33, ground := Go.Ground.phase }, { on := 34, ground := Go.Ground.phase }, { on := 35, ground := Go.Ground.phase }, { on := 36, ground := Go.Ground.phase }], guard := none }
set_option maxHeartbeats 16000000 in
set_option maxRecDepth 100000 in
theorem units_1e (p : PT) (i : Int) (w : World) (hp1 : -9223372036854775808 ≤ p.k) (hp2 : p.k ≤ 9223372036854775807) (hi1 : -9223372036854775808 ≤ i) (hi2 : i ≤ 9223372036854775807) (T : Tabs8 w) (hs : shortP p = true) (he : setE p = 0) (hS : saneP p = true) (hN : numB p = true) (hR : setS p = numR p) (hk : p.k = 1) (hne : numR p = []) :
    Calls Tryd.prog 4 #[ptV p, .int .i64 i] w fun e w' => e = .returned (.bool true) ∧ Kp w w' := by
  have AW := Lib.hid (fun w1 (kk : Kp w w1) => awake08 w1 (T.kp kk))
  have SH := Lib.hid (fun w1 (kk : Kp w w1) => short_any p w1)
  rw [hs] at SH
  have ST := fun w1 (kk : Kp w w1) => pset_any p w1 (T.kp kk)
  rw [he, hR] at ST
  have STH := Lib.hid ST
  have HU := numR_has hS hN i
  have IN := numR_inn hS hN
  have LN := numR_len p
  have SS := numR_sane p
  have CUc := Lib.hid (fun w1 (kk : Kp w w1) => countC p.k w1 (T.kp kk).1)
  have ck := cnt_bd p.k
  unfold inU at HU
  rw [if_neg (by rw [hk]; decide), if_pos hk] at HU
  have hz : sumR (nf (numR p)) = 0 := by rw [hne]; rfl
  have CSn := Lib.hid (fun v w1 (h : RunsAt w1 v (numR p)) => sane_yes v (numR p) w1 h SS)
  have CHs := fun ad c w1 (h : RunsAt w1 (.slice ad (numR p).length c) (numR p)) => has_any ad c (numR p) i w1 h (sane_i64 SS) (by omega) hi1 hi2
  have CCt := Lib.hid (fun v w1 (h : RunsAt w1 v (numR p)) => scount_any v (numR p) w1 h (sane_i64 SS) (by omega))
  rw [HU] at CHs
  have CHH := Lib.hid CHs
  have M1 := Lib.hid (fun w1 => mmatch_any p.y (i / 12) w1 (by omega) (by omega))
  have M2 := Lib.hid (fun w1 => mmatch_any p.m (i % 12 + 1) w1 (by omega) (by omega))
  generalize sumR (nf (numR p)) = cs at *
  generalize numR p = S at *
  generalize matchM p.y (i / 12) = b1 at *
  generalize matchM p.m (i % 12 + 1) = b2 at *
  obtain ⟨b0, hb0⟩ : ∃ b, decide (0 ≤ i) = b := ⟨_, rfl⟩
  rw [hb0] at CHH
  generalize cnt p.k = cu at *
  subst hz hne
  clear hs he hS hN hR T ST HU CHs SS LN IN ck
  obtain ⟨kp, yp, mp, dp⟩ := p
  unfold ptV at *
  simp only at *
  obtain ⟨W0, hW⟩ : ∃ W0, W0 = w.alloc (.cells #[.int .i64 kp, .string yp, .string mp, .string dp] 23) := ⟨_, rfl⟩
  have K00 := Lib.hid (show Kp w W0 by rw [hW]; exact Kp.alloc _ _)
  have HB := Lib.hid (fun w1 (k : Kp W0 w1) => show w1.cell? ⟨w.heap.size, 0, none⟩ = some (.int .i64 kp) ∧ w1.cell? ⟨w.heap.size, 1, none⟩ = some (.string yp) ∧ w1.cell? ⟨w.heap.size, 2, none⟩ = some (.string mp) ∧ w1.cell? ⟨w.heap.size, 3, none⟩ = some (.string dp) from ⟨cell_up k (show W0.cell? ⟨w.heap.size, 0, none⟩ = some (.int .i64 kp) by rw [hW]; simp), cell_up k (show W0.cell? ⟨w.heap.size, 1, none⟩ = some (.string yp) by rw [hW]; simp), cell_up k (show W0.cell? ⟨w.heap.size, 2, none⟩ = some (.string mp) by rw [hW]; simp), cell_up k (show W0.cell? ⟨w.heap.size, 3, none⟩ = some (.string dp) by rw [hW]; simp)⟩)
  obtain ⟨c0, c1, c2, c3⟩ := HB.out W0 (Kp.refl _)
  have K0 := Lib.hid (Kp.refl W0)
  have HW := Lib.hid hW
  clear hW
  (try simp only at *)
  subst hk
  cases b0 with
  | false =>
    have gm : decide (0 ≤ i) = false := hb0
    simp only [Bool.false_and] at CHH
    clear hb0
    go_enter Tryd.func4, Tryd.ntmps4
    go_wp2_with fail
    rw [← HW.out]
    refine (AW.out _ (K00.out.trans (by first | with_reducible exact K0.out | with_reducible exact K0.out.trans (Kp.alloc _ _) | with_reducible exact (K0.out.trans (Kp.alloc _ _)).trans (Kp.alloc _ _) | with_reducible exact ((K0.out.trans (Kp.alloc _ _)).trans (Kp.alloc _ _)).trans (Kp.alloc _ _) | with_reducible exact K0.out.trans (Kp.drew _) | with_reducible exact K0.out.trans (Kp.drewN _ _)))).mono ?_
    rintro e w1 ⟨rfl, kk⟩
    have K1 := Lib.hid ((show Kp W0 _ from (by first | with_reducible exact K0.out | with_reducible exact K0.out.trans (Kp.alloc _ _) | with_reducible exact (K0.out.trans (Kp.alloc _ _)).trans (Kp.alloc _ _) | with_reducible exact ((K0.out.trans (Kp.alloc _ _)).trans (Kp.alloc _ _)).trans (Kp.alloc _ _) | with_reducible exact K0.out.trans (Kp.drew _) | with_reducible exact K0.out.trans (Kp.drewN _ _))).trans kk)
    clear kk
    clear c0 c1 c2 c3
    obtain ⟨c0, c1, c2, c3⟩ := HB.out w1 K1.out
    go_wp2_with fail
    refine (SH.out _ (K00.out.trans (by first | with_reducible exact K1.out | with_reducible exact K1.out.trans (Kp.alloc _ _) | with_reducible exact (K1.out.trans (Kp.alloc _ _)).trans (Kp.alloc _ _) | with_reducible exact ((K1.out.trans (Kp.alloc _ _)).trans (Kp.alloc _ _)).trans (Kp.alloc _ _) | with_reducible exact K1.out.trans (Kp.drew _) | with_reducible exact K1.out.trans (Kp.drewN _ _)))).mono ?_
    rintro e w2 ⟨rfl, kk⟩
    have K2 := Lib.hid ((show Kp W0 _ from (by first | with_reducible exact K1.out | with_reducible exact K1.out.trans (Kp.alloc _ _) | with_reducible exact (K1.out.trans (Kp.alloc _ _)).trans (Kp.alloc _ _) | with_reducible exact ((K1.out.trans (Kp.alloc _ _)).trans (Kp.alloc _ _)).trans (Kp.alloc _ _) | with_reducible exact K1.out.trans (Kp.drew _) | with_reducible exact K1.out.trans (Kp.drewN _ _))).trans kk)
    clear kk
    clear c0 c1 c2 c3
    obtain ⟨c0, c1, c2, c3⟩ := HB.out w2 K2.out
    go_wp2_with fail
    refine (STH.out _ (K00.out.trans (by first | with_reducible exact K2.out | with_reducible exact K2.out.trans (Kp.alloc _ _) | with_reducible exact (K2.out.trans (Kp.alloc _ _)).trans (Kp.alloc _ _) | with_reducible exact ((K2.out.trans (Kp.alloc _ _)).trans (Kp.alloc _ _)).trans (Kp.alloc _ _) | with_reducible exact K2.out.trans (Kp.drew _) | with_reducible exact K2.out.trans (Kp.drewN _ _)))).mono ?_
    rintro e w3 ⟨v3, rfl, own3, kk⟩
    have K3 := Lib.hid ((show Kp W0 _ from (by first | with_reducible exact K2.out | with_reducible exact K2.out.trans (Kp.alloc _ _) | with_reducible exact (K2.out.trans (Kp.alloc _ _)).trans (Kp.alloc _ _) | with_reducible exact ((K2.out.trans (Kp.alloc _ _)).trans (Kp.alloc _ _)).trans (Kp.alloc _ _) | with_reducible exact K2.out.trans (Kp.drew _) | with_reducible exact K2.out.trans (Kp.drewN _ _))).trans kk)
    have RS := Lib.hid (fun w1 (q : Kp w3 w1) => (runsAt_own own3).kp q)
    obtain ⟨aS, cS, rfl⟩ := own_slice own3
    clear own3
    clear kk
    clear c0 c1 c2 c3
    obtain ⟨c0, c1, c2, c3⟩ := HB.out w3 K3.out
    have G3_3 := Lib.hid (Kp.refl w3)
    have KS := Lib.hid (fun w' (kq : Kp w3 w') => show w'.cell? ⟨w.heap.size, 0, none⟩ = some (.int .i64 1) ∧ w'.cell? ⟨w.heap.size, 1, none⟩ = some (.string yp) ∧ w'.cell? ⟨w.heap.size, 2, none⟩ = some (.string mp) ∧ w'.cell? ⟨w.heap.size, 3, none⟩ = some (.string dp) ∧ Kp w3 w' from ⟨(HB.out w' (K3.out.trans kq)).1, (HB.out w' (K3.out.trans kq)).2.1, (HB.out w' (K3.out.trans kq)).2.2.1, (HB.out w' (K3.out.trans kq)).2.2.2, kq⟩)
    go_wp2_with fail
    refine wp_region_held_drew (S := fun w' => w'.cell? ⟨w.heap.size, 0, none⟩ = some (.int .i64 1) ∧ w'.cell? ⟨w.heap.size, 1, none⟩ = some (.string yp) ∧ w'.cell? ⟨w.heap.size, 2, none⟩ = some (.string mp) ∧ w'.cell? ⟨w.heap.size, 3, none⟩ = some (.string dp) ∧ Kp w3 w') (by kernel_rfl) ?_ (fun hHeld0 => ?_)
    · (try dsimp only); exact KS.out _ (by first | assumption | exact Kp.drew _)
    refine tkV (v := ?_) 0 uS0 ?_ ?_
    rotate_left
    · intro w hSw; (try dsimp only at hSw); go_simp; (try with_reducible rfl)
    (try simp only [Act.put, uS0, xA, xB, xC])
    refine tkV (v := ?_) 1 uS1 ?_ ?_
    rotate_left
    · intro w hSw; (try dsimp only at hSw); go_simp; (try with_reducible rfl)
    (try simp only [Act.put, uS1, xA, xB, xC])
    refine tkV (v := ?_) 2 uS2 ?_ ?_
    rotate_left
    · intro w hSw; (try dsimp only at hSw); go_simp; (try with_reducible rfl)
    (try simp only [Act.put, uS2, xA, xB, xC])
    refine tkE 3 uS3 rfl (by kernel_rfl) (fun K hK => ?_)
    go_simp
    (refine (CSn.out _ _ (RS.out _ (G3_3.out.trans (by first | assumption | exact Kp.drew _)))).mono ?_; rintro e w' ⟨rfl, k1⟩; have k2 := Kp.trans (show Kp w3 _ from (by first | assumption | exact Kp.drew _)) k1; clear k1)
    (try go_wp2_with fail)
    refine hK.out _ _ ?_ (fun hHeld1 => ?_)
    · (try dsimp only); exact KS.out _ (by first | assumption | exact Kp.drew _)
    clear hK K hHeld0
    (try simp only [Act.put, uS3, xA, xB, xC])
    refine tkV (v := ?_) 4 uS4 ?_ ?_
    rotate_left
    · intro w hSw; (try dsimp only at hSw); go_simp; (try with_reducible rfl)
    (try simp only [Act.put, uS4, xA, xB, xC])
    refine tkV (v := ?_) 5 uS5 ?_ ?_
    rotate_left
    · intro w hSw; (try dsimp only at hSw); go_simp; (try with_reducible rfl)
    (try simp only [Act.put, uS5, xA, xB, xC])
    refine tkV (v := ?_) 6 uS6 ?_ ?_
    rotate_left
    · intro w hSw; (try dsimp only at hSw); go_simp; (try with_reducible rfl)
    (try simp only [Act.put, uS6, xA, xB, xC])
    refine tkV (v := ?_) 7 uS7 ?_ ?_
    rotate_left
    · intro w hSw; (try dsimp only at hSw); go_simp; (try with_reducible rfl)
    (try simp only [Act.put, uS7, xA, xB, xC])
    refine tkV (v := ?_) 9 uS9 ?_ ?_
    rotate_left
    · intro w hSw; (try dsimp only at hSw); go_simp; (try with_reducible rfl)
    (try simp only [Act.put, uS9, xA, xB, xC])
    refine tkE 8 uS8 rfl (by kernel_rfl) (fun K hK => ?_)
    go_simp
    (refine (CHH.out _ _ _ (RS.out _ (G3_3.out.trans (by first | assumption | exact Kp.drew _)))).mono ?_; rintro e w' ⟨rfl, k1⟩; have k2 := Kp.trans (show Kp w3 _ from (by first | assumption | exact Kp.drew _)) k1; clear k1)
    (try go_wp2_with fail)
    refine hK.out _ _ ?_ (fun hHeld2 => ?_)
    · (try dsimp only); exact KS.out _ (by first | assumption | exact Kp.drew _)
    clear hK K hHeld1
    (try simp only [Act.put, uS8, xA, xB, xC])
    refine tkV (v := ?_) 10 uS10 ?_ ?_
    rotate_left
    · intro w hSw; (try dsimp only at hSw); go_simp; (try with_reducible rfl)
    (try simp only [Act.put, uS10, xA, xB, xC])
    refine tkV (v := ?_) 11 uS11 ?_ ?_
    rotate_left
    · intro w hSw; (try dsimp only at hSw); go_simp; (try with_reducible rfl)
    (try simp only [Act.put, uS11, xA, xB, xC])
    refine tkV (v := ?_) 12 uS12 ?_ ?_
    rotate_left
    · intro w hSw; (try dsimp only at hSw); go_simp; (try with_reducible rfl)
    (try simp only [Act.put, uS12, xA, xB, xC])
    refine tkV (v := ?_) 13 uS13 ?_ ?_
    rotate_left
    · intro w hSw; (try dsimp only at hSw); go_simp; (try with_reducible rfl)
    (try simp only [Act.put, uS13, xA, xB, xC])
    refine tkE 14 uS14 rfl (by kernel_rfl) (fun K hK => ?_)
    go_simp
    (refine (CCt.out _ _ (RS.out _ (G3_3.out.trans (by first | assumption | exact Kp.drew _)))).mono ?_; rintro e w' ⟨rfl, k1⟩; have k2 := Kp.trans (show Kp w3 _ from (by first | assumption | exact Kp.drew _)) k1; clear k1)
    (try go_wp2_with fail)
    refine hK.out _ _ ?_ (fun hHeld3 => ?_)
    · (try dsimp only); exact KS.out _ (by first | assumption | exact Kp.drew _)
    clear hK K hHeld2
    (try simp only [Act.put, uS14, xA, xB, xC])
    refine tkV (v := ?_) 15 uS15 ?_ ?_
    rotate_left
    · intro w hSw; (try dsimp only at hSw); go_simp; (try with_reducible rfl)
    (try simp only [Act.put, uS15, xA, xB, xC])
    refine tkV (v := ?_) 16 uS16 ?_ ?_
    rotate_left
    · intro w hSw; (try dsimp only at hSw); go_simp; (try with_reducible rfl)
    (try simp only [Act.put, uS16, xA, xB, xC])
    refine tkN 17 uS17 ?_
    (try simp only [Act.put, uS17, xA, xB, xC])
    refine tkN 18 uS18 ?_
    (try simp only [Act.put, uS18, xA, xB, xC])
    refine tkN 19 uS19 ?_
    (try simp only [Act.put, uS19, xA, xB, xC])
    refine tkN 20 uS20 ?_
    (try simp only [Act.put, uS20, xA, xB, xC])
    refine tkN 21 uS21 ?_
    (try simp only [Act.put, uS21, xA, xB, xC])
    refine tkN 22 uS22 ?_
    (try simp only [Act.put, uS22, xA, xB, xC])
    refine tkN 23 uS23 ?_
    (try simp only [Act.put, uS23, xA, xB, xC])
    refine tkN 24 uS24 ?_
    (try simp only [Act.put, uS24, xA, xB, xC])
    refine tkN 25 uS25 ?_
    (try simp only [Act.put, uS25, xA, xB, xC])
    refine tkN 26 uS26 ?_
    (try simp only [Act.put, uS26, xA, xB, xC])
    refine tkN 27 uS27 ?_
    (try simp only [Act.put, uS27, xA, xB, xC])
    refine tkN 28 uS28 ?_
    (try simp only [Act.put, uS28, xA, xB, xC])
    refine tkN 29 uS29 ?_
    (try simp only [Act.put, uS29, xA, xB, xC])
    refine tkN 30 uS30 ?_
    (try simp only [Act.put, uS30, xA, xB, xC])
    refine tkN 31 uS31 ?_
    (try simp only [Act.put, uS31, xA, xB, xC])
    refine tkN 32 uS32 ?_
    (try simp only [Act.put, uS32, xA, xB, xC])
    refine tkN 33 uS33 ?_
    (try simp only [Act.put, uS33, xA, xB, xC])
    refine tkN 34 uS34 ?_
    (try simp only [Act.put, uS34, xA, xB, xC])
    refine tkV (v := ?_) 35 uS35 ?_ ?_
    rotate_left
    · intro w hSw; (try dsimp only at hSw); go_simp; (try with_reducible rfl)
    (try simp only [Act.put, uS35, xA, xB, xC])
    refine tkV (v := ?_) 36 uS36 ?_ ?_
    rotate_left
    · intro w hSw; (try dsimp only at hSw); go_simp; (try with_reducible rfl)
    (try simp only [Act.put, uS36, xA, xB, xC])
    refine tkV (v := ?_) 37 uS37 ?_ ?_
    rotate_left
    · intro w hSw; (try dsimp only at hSw); go_simp; (try with_reducible rfl)
    (try simp only [Act.put, uS37, xA, xB, xC])
    refine wpAnyH_done (by kernel_rfl) ?_ _
    go_wp2
    go_ret
    exact ⟨rfl, K00.out.trans (K3.out.trans k2)⟩
  | true =>
    have gm : decide (0 ≤ i) = true := hb0
    have hi0 := of_decide_eq_true hb0
    have t1 : Int.tdiv i 12 = i / 12 := Int.tdiv_eq_ediv_of_nonneg hi0
    have t2 : Int.tmod i 12 = i % 12 := Int.tmod_eq_emod_of_nonneg hi0
    simp only [Bool.true_and] at CHH
    clear hb0
    cases b1 with
    | false =>
      simp only [Bool.false_and] at CHH
      go_enter Tryd.func4, Tryd.ntmps4
      go_wp2_with fail
      rw [← HW.out]
      refine (AW.out _ (K00.out.trans (by first | with_reducible exact K0.out | with_reducible exact K0.out.trans (Kp.alloc _ _) | with_reducible exact (K0.out.trans (Kp.alloc _ _)).trans (Kp.alloc _ _) | with_reducible exact ((K0.out.trans (Kp.alloc _ _)).trans (Kp.alloc _ _)).trans (Kp.alloc _ _) | with_reducible exact K0.out.trans (Kp.drew _) | with_reducible exact K0.out.trans (Kp.drewN _ _)))).mono ?_
      rintro e w1 ⟨rfl, kk⟩
      have K1 := Lib.hid ((show Kp W0 _ from (by first | with_reducible exact K0.out | with_reducible exact K0.out.trans (Kp.alloc _ _) | with_reducible exact (K0.out.trans (Kp.alloc _ _)).trans (Kp.alloc _ _) | with_reducible exact ((K0.out.trans (Kp.alloc _ _)).trans (Kp.alloc _ _)).trans (Kp.alloc _ _) | with_reducible exact K0.out.trans (Kp.drew _) | with_reducible exact K0.out.trans (Kp.drewN _ _))).trans kk)
      clear kk
      clear c0 c1 c2 c3
      obtain ⟨c0, c1, c2, c3⟩ := HB.out w1 K1.out
      go_wp2_with fail
      refine (SH.out _ (K00.out.trans (by first | with_reducible exact K1.out | with_reducible exact K1.out.trans (Kp.alloc _ _) | with_reducible exact (K1.out.trans (Kp.alloc _ _)).trans (Kp.alloc _ _) | with_reducible exact ((K1.out.trans (Kp.alloc _ _)).trans (Kp.alloc _ _)).trans (Kp.alloc _ _) | with_reducible exact K1.out.trans (Kp.drew _) | with_reducible exact K1.out.trans (Kp.drewN _ _)))).mono ?_
      rintro e w2 ⟨rfl, kk⟩
      have K2 := Lib.hid ((show Kp W0 _ from (by first | with_reducible exact K1.out | with_reducible exact K1.out.trans (Kp.alloc _ _) | with_reducible exact (K1.out.trans (Kp.alloc _ _)).trans (Kp.alloc _ _) | with_reducible exact ((K1.out.trans (Kp.alloc _ _)).trans (Kp.alloc _ _)).trans (Kp.alloc _ _) | with_reducible exact K1.out.trans (Kp.drew _) | with_reducible exact K1.out.trans (Kp.drewN _ _))).trans kk)
      clear kk
      clear c0 c1 c2 c3
      obtain ⟨c0, c1, c2, c3⟩ := HB.out w2 K2.out
      go_wp2_with fail
      refine (STH.out _ (K00.out.trans (by first | with_reducible exact K2.out | with_reducible exact K2.out.trans (Kp.alloc _ _) | with_reducible exact (K2.out.trans (Kp.alloc _ _)).trans (Kp.alloc _ _) | with_reducible exact ((K2.out.trans (Kp.alloc _ _)).trans (Kp.alloc _ _)).trans (Kp.alloc _ _) | with_reducible exact K2.out.trans (Kp.drew _) | with_reducible exact K2.out.trans (Kp.drewN _ _)))).mono ?_
      rintro e w3 ⟨v3, rfl, own3, kk⟩
      have K3 := Lib.hid ((show Kp W0 _ from (by first | with_reducible exact K2.out | with_reducible exact K2.out.trans (Kp.alloc _ _) | with_reducible exact (K2.out.trans (Kp.alloc _ _)).trans (Kp.alloc _ _) | with_reducible exact ((K2.out.trans (Kp.alloc _ _)).trans (Kp.alloc _ _)).trans (Kp.alloc _ _) | with_reducible exact K2.out.trans (Kp.drew _) | with_reducible exact K2.out.trans (Kp.drewN _ _))).trans kk)
      have RS := Lib.hid (fun w1 (q : Kp w3 w1) => (runsAt_own own3).kp q)
      obtain ⟨aS, cS, rfl⟩ := own_slice own3
      clear own3
      clear kk
      clear c0 c1 c2 c3
      obtain ⟨c0, c1, c2, c3⟩ := HB.out w3 K3.out
      have G3_3 := Lib.hid (Kp.refl w3)
      go_wp2_with fail
      refine (M1.out _).mono ?_
      rintro e w4 ⟨rfl, kk⟩
      have K4 := Lib.hid ((show Kp W0 _ from (by first | with_reducible exact K3.out | with_reducible exact K3.out.trans (Kp.alloc _ _) | with_reducible exact (K3.out.trans (Kp.alloc _ _)).trans (Kp.alloc _ _) | with_reducible exact ((K3.out.trans (Kp.alloc _ _)).trans (Kp.alloc _ _)).trans (Kp.alloc _ _) | with_reducible exact K3.out.trans (Kp.drew _) | with_reducible exact K3.out.trans (Kp.drewN _ _))).trans kk)
      have G3_4 := Lib.hid (G3_3.out.trans ((show Kp w3 _ from (by first | with_reducible exact Kp.refl _ | with_reducible exact Kp.alloc _ _ | with_reducible exact (Kp.alloc _ _).trans (Kp.alloc _ _) | with_reducible exact ((Kp.alloc _ _).trans (Kp.alloc _ _)).trans (Kp.alloc _ _) | with_reducible exact Kp.drew _ | with_reducible exact Kp.drewN _ _)).trans kk))
      clear kk
      clear c0 c1 c2 c3
      obtain ⟨c0, c1, c2, c3⟩ := HB.out w4 K4.out
      have KS := Lib.hid (fun w' (kq : Kp w4 w') => show w'.cell? ⟨w.heap.size, 0, none⟩ = some (.int .i64 1) ∧ w'.cell? ⟨w.heap.size, 1, none⟩ = some (.string yp) ∧ w'.cell? ⟨w.heap.size, 2, none⟩ = some (.string mp) ∧ w'.cell? ⟨w.heap.size, 3, none⟩ = some (.string dp) ∧ Kp w4 w' from ⟨(HB.out w' (K4.out.trans kq)).1, (HB.out w' (K4.out.trans kq)).2.1, (HB.out w' (K4.out.trans kq)).2.2.1, (HB.out w' (K4.out.trans kq)).2.2.2, kq⟩)
      go_wp2_with fail
      refine wp_region_held_drew (S := fun w' => w'.cell? ⟨w.heap.size, 0, none⟩ = some (.int .i64 1) ∧ w'.cell? ⟨w.heap.size, 1, none⟩ = some (.string yp) ∧ w'.cell? ⟨w.heap.size, 2, none⟩ = some (.string mp) ∧ w'.cell? ⟨w.heap.size, 3, none⟩ = some (.string dp) ∧ Kp w4 w') (by kernel_rfl) ?_ (fun hHeld0 => ?_)
      · (try dsimp only); exact KS.out _ (by first | assumption | exact Kp.drew _)
      refine tkV (v := ?_) 0 uS0 ?_ ?_
      rotate_left
      · intro w hSw; (try dsimp only at hSw); go_simp; (try with_reducible rfl)
      (try simp only [Act.put, uS0, xA, xB, xC])
      refine tkV (v := ?_) 1 uS1 ?_ ?_
      rotate_left
      · intro w hSw; (try dsimp only at hSw); go_simp; (try with_reducible rfl)
      (try simp only [Act.put, uS1, xA, xB, xC])
      refine tkV (v := ?_) 2 uS2 ?_ ?_
      rotate_left
      · intro w hSw; (try dsimp only at hSw); go_simp; (try with_reducible rfl)
      (try simp only [Act.put, uS2, xA, xB, xC])
      refine tkE 3 uS3 rfl (by kernel_rfl) (fun K hK => ?_)
      go_simp
      (refine (CSn.out _ _ (RS.out _ (G3_4.out.trans (by first | assumption | exact Kp.drew _)))).mono ?_; rintro e w' ⟨rfl, k1⟩; have k2 := Kp.trans (show Kp w4 _ from (by first | assumption | exact Kp.drew _)) k1; clear k1)
      (try go_wp2_with fail)
      refine hK.out _ _ ?_ (fun hHeld1 => ?_)
      · (try dsimp only); exact KS.out _ (by first | assumption | exact Kp.drew _)
      clear hK K hHeld0
      (try simp only [Act.put, uS3, xA, xB, xC])
      refine tkV (v := ?_) 4 uS4 ?_ ?_
      rotate_left
      · intro w hSw; (try dsimp only at hSw); go_simp; (try with_reducible rfl)
      (try simp only [Act.put, uS4, xA, xB, xC])
      refine tkV (v := ?_) 5 uS5 ?_ ?_
      rotate_left
      · intro w hSw; (try dsimp only at hSw); go_simp; (try with_reducible rfl)
      (try simp only [Act.put, uS5, xA, xB, xC])
      refine tkV (v := ?_) 6 uS6 ?_ ?_
      rotate_left
      · intro w hSw; (try dsimp only at hSw); go_simp; (try with_reducible rfl)
      (try simp only [Act.put, uS6, xA, xB, xC])
      refine tkV (v := ?_) 7 uS7 ?_ ?_
      rotate_left
      · intro w hSw; (try dsimp only at hSw); go_simp; (try with_reducible rfl)
      (try simp only [Act.put, uS7, xA, xB, xC])
      refine tkV (v := ?_) 9 uS9 ?_ ?_
      rotate_left
      · intro w hSw; (try dsimp only at hSw); go_simp; (try with_reducible rfl)
      (try simp only [Act.put, uS9, xA, xB, xC])
      refine tkE 8 uS8 rfl (by kernel_rfl) (fun K hK => ?_)
      go_simp
      (refine (CHH.out _ _ _ (RS.out _ (G3_4.out.trans (by first | assumption | exact Kp.drew _)))).mono ?_; rintro e w' ⟨rfl, k1⟩; have k2 := Kp.trans (show Kp w4 _ from (by first | assumption | exact Kp.drew _)) k1; clear k1)
      (try go_wp2_with fail)
      refine hK.out _ _ ?_ (fun hHeld2 => ?_)
      · (try dsimp only); exact KS.out _ (by first | assumption | exact Kp.drew _)
      clear hK K hHeld1
      (try simp only [Act.put, uS8, xA, xB, xC])
      refine tkV (v := ?_) 10 uS10 ?_ ?_
      rotate_left
      · intro w hSw; (try dsimp only at hSw); go_simp; (try with_reducible rfl)
      (try simp only [Act.put, uS10, xA, xB, xC])
      refine tkV (v := ?_) 11 uS11 ?_ ?_
      rotate_left
      · intro w hSw; (try dsimp only at hSw); go_simp; (try with_reducible rfl)
      (try simp only [Act.put, uS11, xA, xB, xC])
      refine tkV (v := ?_) 12 uS12 ?_ ?_
      rotate_left
      · intro w hSw; (try dsimp only at hSw); go_simp; (try with_reducible rfl)
      (try simp only [Act.put, uS12, xA, xB, xC])
      refine tkV (v := ?_) 13 uS13 ?_ ?_
      rotate_left
      · intro w hSw; (try dsimp only at hSw); go_simp; (try with_reducible rfl)
      (try simp only [Act.put, uS13, xA, xB, xC])
      refine tkE 14 uS14 rfl (by kernel_rfl) (fun K hK => ?_)
      go_simp
      (refine (CCt.out _ _ (RS.out _ (G3_4.out.trans (by first | assumption | exact Kp.drew _)))).mono ?_; rintro e w' ⟨rfl, k1⟩; have k2 := Kp.trans (show Kp w4 _ from (by first | assumption | exact Kp.drew _)) k1; clear k1)
      (try go_wp2_with fail)
      refine hK.out _ _ ?_ (fun hHeld3 => ?_)
      · (try dsimp only); exact KS.out _ (by first | assumption | exact Kp.drew _)
      clear hK K hHeld2
      (try simp only [Act.put, uS14, xA, xB, xC])
      refine tkV (v := ?_) 15 uS15 ?_ ?_
      rotate_left
      · intro w hSw; (try dsimp only at hSw); go_simp; (try with_reducible rfl)
      (try simp only [Act.put, uS15, xA, xB, xC])
      refine tkV (v := ?_) 16 uS16 ?_ ?_
      rotate_left
      · intro w hSw; (try dsimp only at hSw); go_simp; (try with_reducible rfl)
      (try simp only [Act.put, uS16, xA, xB, xC])
      refine tkN 17 uS17 ?_
      (try simp only [Act.put, uS17, xA, xB, xC])
      refine tkN 18 uS18 ?_
      (try simp only [Act.put, uS18, xA, xB, xC])
      refine tkN 19 uS19 ?_
      (try simp only [Act.put, uS19, xA, xB, xC])
      refine tkN 20 uS20 ?_
      (try simp only [Act.put, uS20, xA, xB, xC])
      refine tkN 21 uS21 ?_
      (try simp only [Act.put, uS21, xA, xB, xC])
      refine tkN 22 uS22 ?_
      (try simp only [Act.put, uS22, xA, xB, xC])
      refine tkN 23 uS23 ?_
      (try simp only [Act.put, uS23, xA, xB, xC])
      refine tkN 24 uS24 ?_
      (try simp only [Act.put, uS24, xA, xB, xC])
      refine tkN 25 uS25 ?_
      (try simp only [Act.put, uS25, xA, xB, xC])
      refine tkN 26 uS26 ?_
      (try simp only [Act.put, uS26, xA, xB, xC])
      refine tkN 27 uS27 ?_
      (try simp only [Act.put, uS27, xA, xB, xC])
      refine tkN 28 uS28 ?_
      (try simp only [Act.put, uS28, xA, xB, xC])
      refine tkN 29 uS29 ?_
      (try simp only [Act.put, uS29, xA, xB, xC])
      refine tkN 30 uS30 ?_
      (try simp only [Act.put, uS30, xA, xB, xC])
      refine tkN 31 uS31 ?_
      (try simp only [Act.put, uS31, xA, xB, xC])
      refine tkN 32 uS32 ?_
      (try simp only [Act.put, uS32, xA, xB, xC])
      refine tkN 33 uS33 ?_
      (try simp only [Act.put, uS33, xA, xB, xC])
      refine tkN 34 uS34 ?_
      (try simp only [Act.put, uS34, xA, xB, xC])
      refine tkV (v := ?_) 35 uS35 ?_ ?_
      rotate_left
      · intro w hSw; (try dsimp only at hSw); go_simp; (try with_reducible rfl)
      (try simp only [Act.put, uS35, xA, xB, xC])
      refine tkV (v := ?_) 36 uS36 ?_ ?_
      rotate_left
      · intro w hSw; (try dsimp only at hSw); go_simp; (try with_reducible rfl)
      (try simp only [Act.put, uS36, xA, xB, xC])
      refine tkV (v := ?_) 37 uS37 ?_ ?_
      rotate_left
      · intro w hSw; (try dsimp only at hSw); go_simp; (try with_reducible rfl)
      (try simp only [Act.put, uS37, xA, xB, xC])
      refine wpAnyH_done (by kernel_rfl) ?_ _
      go_wp2
      go_ret
      exact ⟨rfl, K00.out.trans (K4.out.trans k2)⟩
    | true =>
      simp only [Bool.true_and] at CHH
      go_enter Tryd.func4, Tryd.ntmps4
      go_wp2_with fail
      rw [← HW.out]
      refine (AW.out _ (K00.out.trans (by first | with_reducible exact K0.out | with_reducible exact K0.out.trans (Kp.alloc _ _) | with_reducible exact (K0.out.trans (Kp.alloc _ _)).trans (Kp.alloc _ _) | with_reducible exact ((K0.out.trans (Kp.alloc _ _)).trans (Kp.alloc _ _)).trans (Kp.alloc _ _) | with_reducible exact K0.out.trans (Kp.drew _) | with_reducible exact K0.out.trans (Kp.drewN _ _)))).mono ?_
      rintro e w1 ⟨rfl, kk⟩
      have K1 := Lib.hid ((show Kp W0 _ from (by first | with_reducible exact K0.out | with_reducible exact K0.out.trans (Kp.alloc _ _) | with_reducible exact (K0.out.trans (Kp.alloc _ _)).trans (Kp.alloc _ _) | with_reducible exact ((K0.out.trans (Kp.alloc _ _)).trans (Kp.alloc _ _)).trans (Kp.alloc _ _) | with_reducible exact K0.out.trans (Kp.drew _) | with_reducible exact K0.out.trans (Kp.drewN _ _))).trans kk)
      clear kk
      clear c0 c1 c2 c3
      obtain ⟨c0, c1, c2, c3⟩ := HB.out w1 K1.out
      go_wp2_with fail
      refine (SH.out _ (K00.out.trans (by first | with_reducible exact K1.out | with_reducible exact K1.out.trans (Kp.alloc _ _) | with_reducible exact (K1.out.trans (Kp.alloc _ _)).trans (Kp.alloc _ _) | with_reducible exact ((K1.out.trans (Kp.alloc _ _)).trans (Kp.alloc _ _)).trans (Kp.alloc _ _) | with_reducible exact K1.out.trans (Kp.drew _) | with_reducible exact K1.out.trans (Kp.drewN _ _)))).mono ?_
      rintro e w2 ⟨rfl, kk⟩
      have K2 := Lib.hid ((show Kp W0 _ from (by first | with_reducible exact K1.out | with_reducible exact K1.out.trans (Kp.alloc _ _) | with_reducible exact (K1.out.trans (Kp.alloc _ _)).trans (Kp.alloc _ _) | with_reducible exact ((K1.out.trans (Kp.alloc _ _)).trans (Kp.alloc _ _)).trans (Kp.alloc _ _) | with_reducible exact K1.out.trans (Kp.drew _) | with_reducible exact K1.out.trans (Kp.drewN _ _))).trans kk)
      clear kk
      clear c0 c1 c2 c3
      obtain ⟨c0, c1, c2, c3⟩ := HB.out w2 K2.out
      go_wp2_with fail
      refine (STH.out _ (K00.out.trans (by first | with_reducible exact K2.out | with_reducible exact K2.out.trans (Kp.alloc _ _) | with_reducible exact (K2.out.trans (Kp.alloc _ _)).trans (Kp.alloc _ _) | with_reducible exact ((K2.out.trans (Kp.alloc _ _)).trans (Kp.alloc _ _)).trans (Kp.alloc _ _) | with_reducible exact K2.out.trans (Kp.drew _) | with_reducible exact K2.out.trans (Kp.drewN _ _)))).mono ?_
      rintro e w3 ⟨v3, rfl, own3, kk⟩
      have K3 := Lib.hid ((show Kp W0 _ from (by first | with_reducible exact K2.out | with_reducible exact K2.out.trans (Kp.alloc _ _) | with_reducible exact (K2.out.trans (Kp.alloc _ _)).trans (Kp.alloc _ _) | with_reducible exact ((K2.out.trans (Kp.alloc _ _)).trans (Kp.alloc _ _)).trans (Kp.alloc _ _) | with_reducible exact K2.out.trans (Kp.drew _) | with_reducible exact K2.out.trans (Kp.drewN _ _))).trans kk)
      have RS := Lib.hid (fun w1 (q : Kp w3 w1) => (runsAt_own own3).kp q)
      obtain ⟨aS, cS, rfl⟩ := own_slice own3
      clear own3
      clear kk
      clear c0 c1 c2 c3
      obtain ⟨c0, c1, c2, c3⟩ := HB.out w3 K3.out
      have G3_3 := Lib.hid (Kp.refl w3)
      go_wp2_with fail
      refine (M1.out _).mono ?_
      rintro e w4 ⟨rfl, kk⟩
      have K4 := Lib.hid ((show Kp W0 _ from (by first | with_reducible exact K3.out | with_reducible exact K3.out.trans (Kp.alloc _ _) | with_reducible exact (K3.out.trans (Kp.alloc _ _)).trans (Kp.alloc _ _) | with_reducible exact ((K3.out.trans (Kp.alloc _ _)).trans (Kp.alloc _ _)).trans (Kp.alloc _ _) | with_reducible exact K3.out.trans (Kp.drew _) | with_reducible exact K3.out.trans (Kp.drewN _ _))).trans kk)
      have G3_4 := Lib.hid (G3_3.out.trans ((show Kp w3 _ from (by first | with_reducible exact Kp.refl _ | with_reducible exact Kp.alloc _ _ | with_reducible exact (Kp.alloc _ _).trans (Kp.alloc _ _) | with_reducible exact ((Kp.alloc _ _).trans (Kp.alloc _ _)).trans (Kp.alloc _ _) | with_reducible exact Kp.drew _ | with_reducible exact Kp.drewN _ _)).trans kk))
      clear kk
      clear c0 c1 c2 c3
      obtain ⟨c0, c1, c2, c3⟩ := HB.out w4 K4.out
      go_wp2_with fail
      refine (M2.out _).mono ?_
      rintro e w5 ⟨rfl, kk⟩
      have K5 := Lib.hid ((show Kp W0 _ from (by first | with_reducible exact K4.out | with_reducible exact K4.out.trans (Kp.alloc _ _) | with_reducible exact (K4.out.trans (Kp.alloc _ _)).trans (Kp.alloc _ _) | with_reducible exact ((K4.out.trans (Kp.alloc _ _)).trans (Kp.alloc _ _)).trans (Kp.alloc _ _) | with_reducible exact K4.out.trans (Kp.drew _) | with_reducible exact K4.out.trans (Kp.drewN _ _))).trans kk)
      have G3_5 := Lib.hid (G3_4.out.trans ((show Kp w4 _ from (by first | with_reducible exact Kp.refl _ | with_reducible exact Kp.alloc _ _ | with_reducible exact (Kp.alloc _ _).trans (Kp.alloc _ _) | with_reducible exact ((Kp.alloc _ _).trans (Kp.alloc _ _)).trans (Kp.alloc _ _) | with_reducible exact Kp.drew _ | with_reducible exact Kp.drewN _ _)).trans kk))
      clear kk
      clear c0 c1 c2 c3
      obtain ⟨c0, c1, c2, c3⟩ := HB.out w5 K5.out
      have KS := Lib.hid (fun w' (kq : Kp w5 w') => show w'.cell? ⟨w.heap.size, 0, none⟩ = some (.int .i64 1) ∧ w'.cell? ⟨w.heap.size, 1, none⟩ = some (.string yp) ∧ w'.cell? ⟨w.heap.size, 2, none⟩ = some (.string mp) ∧ w'.cell? ⟨w.heap.size, 3, none⟩ = some (.string dp) ∧ Kp w5 w' from ⟨(HB.out w' (K5.out.trans kq)).1, (HB.out w' (K5.out.trans kq)).2.1, (HB.out w' (K5.out.trans kq)).2.2.1, (HB.out w' (K5.out.trans kq)).2.2.2, kq⟩)
      go_wp2_with fail
      refine wp_region_held_drew (S := fun w' => w'.cell? ⟨w.heap.size, 0, none⟩ = some (.int .i64 1) ∧ w'.cell? ⟨w.heap.size, 1, none⟩ = some (.string yp) ∧ w'.cell? ⟨w.heap.size, 2, none⟩ = some (.string mp) ∧ w'.cell? ⟨w.heap.size, 3, none⟩ = some (.string dp) ∧ Kp w5 w') (by kernel_rfl) ?_ (fun hHeld0 => ?_)
      · (try dsimp only); exact KS.out _ (by first | assumption | exact Kp.drew _)
      refine tkV (v := ?_) 0 uS0 ?_ ?_
      rotate_left
      · intro w hSw; (try dsimp only at hSw); go_simp; (try with_reducible rfl)
      (try simp only [Act.put, uS0, xA, xB, xC])
      refine tkV (v := ?_) 1 uS1 ?_ ?_
      rotate_left
      · intro w hSw; (try dsimp only at hSw); go_simp; (try with_reducible rfl)
      (try simp only [Act.put, uS1, xA, xB, xC])
      refine tkV (v := ?_) 2 uS2 ?_ ?_
      rotate_left
      · intro w hSw; (try dsimp only at hSw); go_simp; (try with_reducible rfl)
      (try simp only [Act.put, uS2, xA, xB, xC])
      refine tkE 3 uS3 rfl (by kernel_rfl) (fun K hK => ?_)
      go_simp
      (refine (CSn.out _ _ (RS.out _ (G3_5.out.trans (by first | assumption | exact Kp.drew _)))).mono ?_; rintro e w' ⟨rfl, k1⟩; have k2 := Kp.trans (show Kp w5 _ from (by first | assumption | exact Kp.drew _)) k1; clear k1)
      (try go_wp2_with fail)
      refine hK.out _ _ ?_ (fun hHeld1 => ?_)
      · (try dsimp only); exact KS.out _ (by first | assumption | exact Kp.drew _)
      clear hK K hHeld0
      (try simp only [Act.put, uS3, xA, xB, xC])
      refine tkV (v := ?_) 4 uS4 ?_ ?_
      rotate_left
      · intro w hSw; (try dsimp only at hSw); go_simp; (try with_reducible rfl)
      (try simp only [Act.put, uS4, xA, xB, xC])
      refine tkV (v := ?_) 5 uS5 ?_ ?_
      rotate_left
      · intro w hSw; (try dsimp only at hSw); go_simp; (try with_reducible rfl)
      (try simp only [Act.put, uS5, xA, xB, xC])
      refine tkV (v := ?_) 6 uS6 ?_ ?_
      rotate_left
      · intro w hSw; (try dsimp only at hSw); go_simp; (try with_reducible rfl)
      (try simp only [Act.put, uS6, xA, xB, xC])
      refine tkV (v := ?_) 7 uS7 ?_ ?_
      rotate_left
      · intro w hSw; (try dsimp only at hSw); go_simp; (try with_reducible rfl)
      (try simp only [Act.put, uS7, xA, xB, xC])
      refine tkV (v := ?_) 9 uS9 ?_ ?_
      rotate_left
      · intro w hSw; (try dsimp only at hSw); go_simp; (try with_reducible rfl)
      (try simp only [Act.put, uS9, xA, xB, xC])
      refine tkE 8 uS8 rfl (by kernel_rfl) (fun K hK => ?_)
      go_simp
      (refine (CHH.out _ _ _ (RS.out _ (G3_5.out.trans (by first | assumption | exact Kp.drew _)))).mono ?_; rintro e w' ⟨rfl, k1⟩; have k2 := Kp.trans (show Kp w5 _ from (by first | assumption | exact Kp.drew _)) k1; clear k1)
      (try go_wp2_with fail)
      refine hK.out _ _ ?_ (fun hHeld2 => ?_)
      · (try dsimp only); exact KS.out _ (by first | assumption | exact Kp.drew _)
      clear hK K hHeld1
      (try simp only [Act.put, uS8, xA, xB, xC])
      refine tkV (v := ?_) 10 uS10 ?_ ?_
      rotate_left
      · intro w hSw; (try dsimp only at hSw); go_simp; (try with_reducible rfl)
      (try simp only [Act.put, uS10, xA, xB, xC])
      refine tkV (v := ?_) 11 uS11 ?_ ?_
      rotate_left
      · intro w hSw; (try dsimp only at hSw); go_simp; (try with_reducible rfl)
      (try simp only [Act.put, uS11, xA, xB, xC])
      refine tkV (v := ?_) 12 uS12 ?_ ?_
      rotate_left
      · intro w hSw; (try dsimp only at hSw); go_simp; (try with_reducible rfl)
      (try simp only [Act.put, uS12, xA, xB, xC])
      refine tkV (v := ?_) 13 uS13 ?_ ?_
      rotate_left
      · intro w hSw; (try dsimp only at hSw); go_simp; (try with_reducible rfl)
      (try simp only [Act.put, uS13, xA, xB, xC])
      refine tkE 14 uS14 rfl (by kernel_rfl) (fun K hK => ?_)
      go_simp
      (refine (CCt.out _ _ (RS.out _ (G3_5.out.trans (by first | assumption | exact Kp.drew _)))).mono ?_; rintro e w' ⟨rfl, k1⟩; have k2 := Kp.trans (show Kp w5 _ from (by first | assumption | exact Kp.drew _)) k1; clear k1)
      (try go_wp2_with fail)
      refine hK.out _ _ ?_ (fun hHeld3 => ?_)
      · (try dsimp only); exact KS.out _ (by first | assumption | exact Kp.drew _)
      clear hK K hHeld2
      (try simp only [Act.put, uS14, xA, xB, xC])
      refine tkV (v := ?_) 15 uS15 ?_ ?_
      rotate_left
      · intro w hSw; (try dsimp only at hSw); go_simp; (try with_reducible rfl)
      (try simp only [Act.put, uS15, xA, xB, xC])
      refine tkV (v := ?_) 16 uS16 ?_ ?_
      rotate_left
      · intro w hSw; (try dsimp only at hSw); go_simp; (try with_reducible rfl)
      (try simp only [Act.put, uS16, xA, xB, xC])
      refine tkN 17 uS17 ?_
      (try simp only [Act.put, uS17, xA, xB, xC])
      refine tkN 18 uS18 ?_
      (try simp only [Act.put, uS18, xA, xB, xC])
      refine tkN 19 uS19 ?_
      (try simp only [Act.put, uS19, xA, xB, xC])
      refine tkN 20 uS20 ?_
      (try simp only [Act.put, uS20, xA, xB, xC])
      refine tkN 21 uS21 ?_
      (try simp only [Act.put, uS21, xA, xB, xC])
      refine tkN 22 uS22 ?_
      (try simp only [Act.put, uS22, xA, xB, xC])
      refine tkN 23 uS23 ?_
      (try simp only [Act.put, uS23, xA, xB, xC])
      refine tkN 24 uS24 ?_
      (try simp only [Act.put, uS24, xA, xB, xC])
      refine tkN 25 uS25 ?_
      (try simp only [Act.put, uS25, xA, xB, xC])
      refine tkN 26 uS26 ?_
      (try simp only [Act.put, uS26, xA, xB, xC])
      refine tkN 27 uS27 ?_
      (try simp only [Act.put, uS27, xA, xB, xC])
      refine tkN 28 uS28 ?_
      (try simp only [Act.put, uS28, xA, xB, xC])
      refine tkN 29 uS29 ?_
      (try simp only [Act.put, uS29, xA, xB, xC])
      refine tkN 30 uS30 ?_
      (try simp only [Act.put, uS30, xA, xB, xC])
      refine tkN 31 uS31 ?_
      (try simp only [Act.put, uS31, xA, xB, xC])
      refine tkN 32 uS32 ?_
      (try simp only [Act.put, uS32, xA, xB, xC])
      refine tkN 33 uS33 ?_
      (try simp only [Act.put, uS33, xA, xB, xC])
      refine tkN 34 uS34 ?_
      (try simp only [Act.put, uS34, xA, xB, xC])
      refine tkV (v := ?_) 35 uS35 ?_ ?_
      rotate_left
      · intro w hSw; (try dsimp only at hSw); go_simp; (try with_reducible rfl)
      (try simp only [Act.put, uS35, xA, xB, xC])
      refine tkV (v := ?_) 36 uS36 ?_ ?_
      rotate_left
      · intro w hSw; (try dsimp only at hSw); go_simp; (try with_reducible rfl)
      (try simp only [Act.put, uS36, xA, xB, xC])
      refine tkV (v := ?_) 37 uS37 ?_ ?_
      rotate_left
      · intro w hSw; (try dsimp only at hSw); go_simp; (try with_reducible rfl)
      (try simp only [Act.put, uS37, xA, xB, xC])
      refine wpAnyH_done (by kernel_rfl) ?_ _
      go_wp2
      go_ret
      exact ⟨rfl, K00.out.trans (K5.out.trans k2)⟩
set_option maxHeartbeats 16000000 in
set_option maxRecDepth 100000 in
theorem units_1n (p : PT) (i : Int) (w : World) (hp1 : -9223372036854775808 ≤ p.k) (hp2 : p.k ≤ 9223372036854775807) (hi1 : -9223372036854775808 ≤ i) (hi2 : i ≤ 9223372036854775807) (T : Tabs8 w) (hs : shortP p = true) (he : setE p = 0) (hS : saneP p = true) (hN : numB p = true) (hR : setS p = numR p) (hk : p.k = 1) (hne : numR p ≠ []) :
    Calls Tryd.prog 4 #[ptV p, .int .i64 i] w fun e w' => e = .returned (.bool true) ∧ Kp w w' := by
  have AW := Lib.hid (fun w1 (kk : Kp w w1) => awake08 w1 (T.kp kk))
  have SH := Lib.hid (fun w1 (kk : Kp w w1) => short_any p w1)
  rw [hs] at SH
  have ST := fun w1 (kk : Kp w w1) => pset_any p w1 (T.kp kk)
  rw [he, hR] at ST
  have STH := Lib.hid ST
  have HU := numR_has hS hN i
  have IN := numR_inn hS hN
  have LN := numR_len p
  have SS := numR_sane p
  have CUc := Lib.hid (fun w1 (kk : Kp w w1) => countC p.k w1 (T.kp kk).1)
  have ck := cnt_bd p.k
  unfold inU at HU
  rw [if_neg (by rw [hk]; decide), if_pos hk] at HU
  obtain ⟨n, hn, hlo, hhi⟩ := ends_of hne IN
  have hz := sumR_pos (l := nf (numR p)) (by rw [nf_of_sane SS]; exact fun r hr => (IN r hr).2.1) (by rw [nf_of_sane SS]; exact hne)
  have CSn := Lib.hid (fun v w1 (h : RunsAt w1 v (numR p)) => sane_yes v (numR p) w1 h SS)
  have CHs := fun ad c w1 (h : RunsAt w1 (.slice ad (numR p).length c) (numR p)) => has_any ad c (numR p) i w1 h (sane_i64 SS) (by omega) hi1 hi2
  have CCt := Lib.hid (fun v w1 (h : RunsAt w1 v (numR p)) => scount_any v (numR p) w1 h (sane_i64 SS) (by omega))
  rw [HU] at CHs
  have CHH := Lib.hid CHs
  have M1 := Lib.hid (fun w1 => mmatch_any p.y (i / 12) w1 (by omega) (by omega))
  have M2 := Lib.hid (fun w1 => mmatch_any p.m (i % 12 + 1) w1 (by omega) (by omega))
  generalize sumR (nf (numR p)) = cs at *
  generalize numR p = S at *
  generalize matchM p.y (i / 12) = b1 at *
  generalize matchM p.m (i % 12 + 1) = b2 at *
  obtain ⟨b0, hb0⟩ : ∃ b, decide (0 ≤ i) = b := ⟨_, rfl⟩
  rw [hb0] at CHH
  have HN := Lib.hid hn
  have hn1 : IntKind.i64.wrap ((S.length : Int) - 1) = (n : Int) := by rw [IntKind.wrap_i64]; omega
  have z1 : (n : Int) < (S.length : Int) := by omega
  have z0 : (0 : Int) < (S.length : Int) := by omega
  have z0n : 0 < S.length := by omega
  have z1n : n < S.length := by omega
  have zc : (cs == 0) = false := by rw [beq_eq_false_iff_ne]; omega
  obtain ⟨lo, hlo'⟩ : ∃ x, (at_ S 0).1 = x := ⟨_, rfl⟩
  obtain ⟨hi', hhi'⟩ : ∃ x, (at_ S n).2 = x := ⟨_, rfl⟩
  have HLO := Lib.hid hlo'
  have HHI := Lib.hid hhi'
  rw [hlo'] at hlo
  rw [hhi'] at hhi
  generalize cnt p.k = cu at *
  have g1 : decide (0 ≤ lo) = true := decide_eq_true hlo
  have g2 : decide (hi' < cu) = true := decide_eq_true (by omega)
  have g3 : decide (lo ≥ 0) = true := decide_eq_true hlo
  clear hn hlo' hhi' hne hz
  clear hs he hS hN hR T ST HU CHs SS LN IN ck
  obtain ⟨kp, yp, mp, dp⟩ := p
  unfold ptV at *
  simp only at *
  obtain ⟨W0, hW⟩ : ∃ W0, W0 = w.alloc (.cells #[.int .i64 kp, .string yp, .string mp, .string dp] 23) := ⟨_, rfl⟩
  have K00 := Lib.hid (show Kp w W0 by rw [hW]; exact Kp.alloc _ _)
  have HB := Lib.hid (fun w1 (k : Kp W0 w1) => show w1.cell? ⟨w.heap.size, 0, none⟩ = some (.int .i64 kp) ∧ w1.cell? ⟨w.heap.size, 1, none⟩ = some (.string yp) ∧ w1.cell? ⟨w.heap.size, 2, none⟩ = some (.string mp) ∧ w1.cell? ⟨w.heap.size, 3, none⟩ = some (.string dp) from ⟨cell_up k (show W0.cell? ⟨w.heap.size, 0, none⟩ = some (.int .i64 kp) by rw [hW]; simp), cell_up k (show W0.cell? ⟨w.heap.size, 1, none⟩ = some (.string yp) by rw [hW]; simp), cell_up k (show W0.cell? ⟨w.heap.size, 2, none⟩ = some (.string mp) by rw [hW]; simp), cell_up k (show W0.cell? ⟨w.heap.size, 3, none⟩ = some (.string dp) by rw [hW]; simp)⟩)
  obtain ⟨c0, c1, c2, c3⟩ := HB.out W0 (Kp.refl _)
  have K0 := Lib.hid (Kp.refl W0)
  have HW := Lib.hid hW
  clear hW
  (try simp only at *)
  subst hk
  cases b0 with
  | false =>
    have gm : decide (0 ≤ i) = false := hb0
    simp only [Bool.false_and] at CHH
    clear hb0
    go_enter Tryd.func4, Tryd.ntmps4
    go_wp2_with fail
    rw [← HW.out]
    refine (AW.out _ (K00.out.trans (by first | with_reducible exact K0.out | with_reducible exact K0.out.trans (Kp.alloc _ _) | with_reducible exact (K0.out.trans (Kp.alloc _ _)).trans (Kp.alloc _ _) | with_reducible exact ((K0.out.trans (Kp.alloc _ _)).trans (Kp.alloc _ _)).trans (Kp.alloc _ _) | with_reducible exact K0.out.trans (Kp.drew _) | with_reducible exact K0.out.trans (Kp.drewN _ _)))).mono ?_
    rintro e w1 ⟨rfl, kk⟩
    have K1 := Lib.hid ((show Kp W0 _ from (by first | with_reducible exact K0.out | with_reducible exact K0.out.trans (Kp.alloc _ _) | with_reducible exact (K0.out.trans (Kp.alloc _ _)).trans (Kp.alloc _ _) | with_reducible exact ((K0.out.trans (Kp.alloc _ _)).trans (Kp.alloc _ _)).trans (Kp.alloc _ _) | with_reducible exact K0.out.trans (Kp.drew _) | with_reducible exact K0.out.trans (Kp.drewN _ _))).trans kk)
    clear kk
    clear c0 c1 c2 c3
    obtain ⟨c0, c1, c2, c3⟩ := HB.out w1 K1.out
    go_wp2_with fail
    refine (SH.out _ (K00.out.trans (by first | with_reducible exact K1.out | with_reducible exact K1.out.trans (Kp.alloc _ _) | with_reducible exact (K1.out.trans (Kp.alloc _ _)).trans (Kp.alloc _ _) | with_reducible exact ((K1.out.trans (Kp.alloc _ _)).trans (Kp.alloc _ _)).trans (Kp.alloc _ _) | with_reducible exact K1.out.trans (Kp.drew _) | with_reducible exact K1.out.trans (Kp.drewN _ _)))).mono ?_
    rintro e w2 ⟨rfl, kk⟩
    have K2 := Lib.hid ((show Kp W0 _ from (by first | with_reducible exact K1.out | with_reducible exact K1.out.trans (Kp.alloc _ _) | with_reducible exact (K1.out.trans (Kp.alloc _ _)).trans (Kp.alloc _ _) | with_reducible exact ((K1.out.trans (Kp.alloc _ _)).trans (Kp.alloc _ _)).trans (Kp.alloc _ _) | with_reducible exact K1.out.trans (Kp.drew _) | with_reducible exact K1.out.trans (Kp.drewN _ _))).trans kk)
    clear kk
    clear c0 c1 c2 c3
    obtain ⟨c0, c1, c2, c3⟩ := HB.out w2 K2.out
    go_wp2_with fail
    refine (STH.out _ (K00.out.trans (by first | with_reducible exact K2.out | with_reducible exact K2.out.trans (Kp.alloc _ _) | with_reducible exact (K2.out.trans (Kp.alloc _ _)).trans (Kp.alloc _ _) | with_reducible exact ((K2.out.trans (Kp.alloc _ _)).trans (Kp.alloc _ _)).trans (Kp.alloc _ _) | with_reducible exact K2.out.trans (Kp.drew _) | with_reducible exact K2.out.trans (Kp.drewN _ _)))).mono ?_
    rintro e w3 ⟨v3, rfl, own3, kk⟩
    have K3 := Lib.hid ((show Kp W0 _ from (by first | with_reducible exact K2.out | with_reducible exact K2.out.trans (Kp.alloc _ _) | with_reducible exact (K2.out.trans (Kp.alloc _ _)).trans (Kp.alloc _ _) | with_reducible exact ((K2.out.trans (Kp.alloc _ _)).trans (Kp.alloc _ _)).trans (Kp.alloc _ _) | with_reducible exact K2.out.trans (Kp.drew _) | with_reducible exact K2.out.trans (Kp.drewN _ _))).trans kk)
    have RS := Lib.hid (fun w1 (q : Kp w3 w1) => (runsAt_own own3).kp q)
    obtain ⟨aS, cS, rfl⟩ := own_slice own3
    clear own3
    clear kk
    clear c0 c1 c2 c3
    obtain ⟨c0, c1, c2, c3⟩ := HB.out w3 K3.out
    have G3_3 := Lib.hid (Kp.refl w3)
    rcases RS.out _ G3_3.out with ⟨_, _, _, e⟩ | ⟨bS, oS, capS, evS, hcS, hmS, hxS⟩
    · exfalso; have := HN.out; rw [e] at this; simp at this
    cases evS
    have e1 := (hxS 0 (by have := HN.out; omega)).1
    have e2 := (hxS n (by have := HN.out; omega)).2
    rw [Nat.zero_mul, Nat.add_zero, HLO.out] at e1
    rw [HHI.out] at e2
    clear hxS hcS hmS
    have KS := Lib.hid (fun w' (kq : Kp w3 w') => show w'.cell? ⟨w.heap.size, 0, none⟩ = some (.int .i64 1) ∧ w'.cell? ⟨w.heap.size, 1, none⟩ = some (.string yp) ∧ w'.cell? ⟨w.heap.size, 2, none⟩ = some (.string mp) ∧ w'.cell? ⟨w.heap.size, 3, none⟩ = some (.string dp) ∧ w'.cell? ⟨bS, oS, none⟩ = some (.int .i64 lo) ∧ w'.cell? ⟨bS, oS + n * 2 + 1, none⟩ = some (.int .i64 hi') ∧ Kp w3 w' from ⟨(HB.out w' (K3.out.trans kq)).1, (HB.out w' (K3.out.trans kq)).2.1, (HB.out w' (K3.out.trans kq)).2.2.1, (HB.out w' (K3.out.trans kq)).2.2.2, cell_up kq e1, cell_up kq e2, kq⟩)
    go_wp2_with fail
    refine wp_region_held_drew (S := fun w' => w'.cell? ⟨w.heap.size, 0, none⟩ = some (.int .i64 1) ∧ w'.cell? ⟨w.heap.size, 1, none⟩ = some (.string yp) ∧ w'.cell? ⟨w.heap.size, 2, none⟩ = some (.string mp) ∧ w'.cell? ⟨w.heap.size, 3, none⟩ = some (.string dp) ∧ w'.cell? ⟨bS, oS, none⟩ = some (.int .i64 lo) ∧ w'.cell? ⟨bS, oS + n * 2 + 1, none⟩ = some (.int .i64 hi') ∧ Kp w3 w') (by kernel_rfl) ?_ (fun hHeld0 => ?_)
    · (try dsimp only); exact KS.out _ (by first | assumption | exact Kp.drew _)
    refine tkV (v := ?_) 0 uS0 ?_ ?_
    rotate_left
    · intro w hSw; (try dsimp only at hSw); go_simp; (try with_reducible rfl)
    (try simp only [Act.put, uS0, xA, xB, xC])
    refine tkV (v := ?_) 1 uS1 ?_ ?_
    rotate_left
    · intro w hSw; (try dsimp only at hSw); go_simp; (try with_reducible rfl)
    (try simp only [Act.put, uS1, xA, xB, xC])
    refine tkV (v := ?_) 2 uS2 ?_ ?_
    rotate_left
    · intro w hSw; (try dsimp only at hSw); go_simp; (try with_reducible rfl)
    (try simp only [Act.put, uS2, xA, xB, xC])
    refine tkE 3 uS3 rfl (by kernel_rfl) (fun K hK => ?_)
    go_simp
    (refine (CSn.out _ _ (RS.out _ (G3_3.out.trans (by first | assumption | exact Kp.drew _)))).mono ?_; rintro e w' ⟨rfl, k1⟩; have k2 := Kp.trans (show Kp w3 _ from (by first | assumption | exact Kp.drew _)) k1; clear k1)
    (try go_wp2_with fail)
    refine hK.out _ _ ?_ (fun hHeld1 => ?_)
    · (try dsimp only); exact KS.out _ (by first | assumption | exact Kp.drew _)
    clear hK K hHeld0
    (try simp only [Act.put, uS3, xA, xB, xC])
    refine tkV (v := ?_) 4 uS4 ?_ ?_
    rotate_left
    · intro w hSw; (try dsimp only at hSw); go_simp; (try with_reducible rfl)
    (try simp only [Act.put, uS4, xA, xB, xC])
    refine tkV (v := ?_) 5 uS5 ?_ ?_
    rotate_left
    · intro w hSw; (try dsimp only at hSw); go_simp; (try with_reducible rfl)
    (try simp only [Act.put, uS5, xA, xB, xC])
    refine tkV (v := ?_) 6 uS6 ?_ ?_
    rotate_left
    · intro w hSw; (try dsimp only at hSw); go_simp; (try with_reducible rfl)
    (try simp only [Act.put, uS6, xA, xB, xC])
    refine tkV (v := ?_) 7 uS7 ?_ ?_
    rotate_left
    · intro w hSw; (try dsimp only at hSw); go_simp; (try with_reducible rfl)
    (try simp only [Act.put, uS7, xA, xB, xC])
    refine tkV (v := ?_) 9 uS9 ?_ ?_
    rotate_left
    · intro w hSw; (try dsimp only at hSw); go_simp; (try with_reducible rfl)
    (try simp only [Act.put, uS9, xA, xB, xC])
    refine tkE 8 uS8 rfl (by kernel_rfl) (fun K hK => ?_)
    go_simp
    (refine (CHH.out _ _ _ (RS.out _ (G3_3.out.trans (by first | assumption | exact Kp.drew _)))).mono ?_; rintro e w' ⟨rfl, k1⟩; have k2 := Kp.trans (show Kp w3 _ from (by first | assumption | exact Kp.drew _)) k1; clear k1)
    (try go_wp2_with fail)
    refine hK.out _ _ ?_ (fun hHeld2 => ?_)
    · (try dsimp only); exact KS.out _ (by first | assumption | exact Kp.drew _)
    clear hK K hHeld1
    (try simp only [Act.put, uS8, xA, xB, xC])
    refine tkV (v := ?_) 10 uS10 ?_ ?_
    rotate_left
    · intro w hSw; (try dsimp only at hSw); go_simp; (try with_reducible rfl)
    (try simp only [Act.put, uS10, xA, xB, xC])
    refine tkV (v := ?_) 11 uS11 ?_ ?_
    rotate_left
    · intro w hSw; (try dsimp only at hSw); go_simp; (try with_reducible rfl)
    (try simp only [Act.put, uS11, xA, xB, xC])
    refine tkV (v := ?_) 12 uS12 ?_ ?_
    rotate_left
    · intro w hSw; (try dsimp only at hSw); go_simp; (try with_reducible rfl)
    (try simp only [Act.put, uS12, xA, xB, xC])
    refine tkV (v := ?_) 13 uS13 ?_ ?_
    rotate_left
    · intro w hSw; (try dsimp only at hSw); go_simp; (try with_reducible rfl)
    (try simp only [Act.put, uS13, xA, xB, xC])
    refine tkE 14 uS14 rfl (by kernel_rfl) (fun K hK => ?_)
    go_simp
    (refine (CCt.out _ _ (RS.out _ (G3_3.out.trans (by first | assumption | exact Kp.drew _)))).mono ?_; rintro e w' ⟨rfl, k1⟩; have k2 := Kp.trans (show Kp w3 _ from (by first | assumption | exact Kp.drew _)) k1; clear k1)
    (try go_wp2_with fail)
    refine hK.out _ _ ?_ (fun hHeld3 => ?_)
    · (try dsimp only); exact KS.out _ (by first | assumption | exact Kp.drew _)
    clear hK K hHeld2
    (try simp only [Act.put, uS14, xA, xB, xC])
    refine tkV (v := ?_) 15 uS15 ?_ ?_
    rotate_left
    · intro w hSw; (try dsimp only at hSw); go_simp; (try with_reducible rfl)
    (try simp only [Act.put, uS15, xA, xB, xC])
    refine tkV (v := ?_) 16 uS16 ?_ ?_
    rotate_left
    · intro w hSw; (try dsimp only at hSw); go_simp; (try with_reducible rfl)
    (try simp only [Act.put, uS16, xA, xB, xC])
    refine tkV (v := ?_) 17 uS17 ?_ ?_
    rotate_left
    · intro w hSw; (try dsimp only at hSw); go_simp; (try with_reducible rfl)
    (try simp only [Act.put, uS17, xA, xB, xC])
    refine tkV (v := ?_) 18 uS18 ?_ ?_
    rotate_left
    · intro w hSw; (try dsimp only at hSw); go_simp; (try with_reducible rfl)
    (try simp only [Act.put, uS18, xA, xB, xC])
    refine tkV (v := ?_) 19 uS19 ?_ ?_
    rotate_left
    · intro w hSw; (try dsimp only at hSw); go_simp; (try with_reducible rfl)
    (try simp only [Act.put, uS19, xA, xB, xC])
    refine tkV (v := ?_) 20 uS20 ?_ ?_
    rotate_left
    · intro w hSw; (try dsimp only at hSw); go_simp; (try with_reducible rfl)
    (try simp only [Act.put, uS20, xA, xB, xC])
    refine tkV (v := ?_) 21 uS21 ?_ ?_
    rotate_left
    · intro w hSw; (try dsimp only at hSw); go_simp; (try with_reducible rfl)
    (try simp only [Act.put, uS21, xA, xB, xC])
    refine tkV (v := ?_) 22 uS22 ?_ ?_
    rotate_left
    · intro w hSw; (try dsimp only at hSw); go_simp; (try with_reducible rfl)
    (try simp only [Act.put, uS22, xA, xB, xC])
    refine tkV (v := ?_) 23 uS23 ?_ ?_
    rotate_left
    · intro w hSw; (try dsimp only at hSw); go_simp; (try with_reducible rfl)
    (try simp only [Act.put, uS23, xA, xB, xC])
    refine tkV (v := ?_) 24 uS24 ?_ ?_
    rotate_left
    · intro w hSw; (try dsimp only at hSw); go_simp; (try with_reducible rfl)
    (try simp only [Act.put, uS24, xA, xB, xC])
    refine tkV (v := ?_) 25 uS25 ?_ ?_
    rotate_left
    · intro w hSw; (try dsimp only at hSw); go_simp; (try with_reducible rfl)
    (try simp only [Act.put, uS25, xA, xB, xC])
    refine tkV (v := ?_) 26 uS26 ?_ ?_
    rotate_left
    · intro w hSw; (try dsimp only at hSw); go_simp; (try with_reducible rfl)
    (try simp only [Act.put, uS26, xA, xB, xC])
    refine tkV (v := ?_) 27 uS27 ?_ ?_
    rotate_left
    · intro w hSw; (try dsimp only at hSw); go_simp; (try with_reducible rfl)
    (try simp only [Act.put, uS27, xA, xB, xC])
    refine tkV (v := ?_) 28 uS28 ?_ ?_
    rotate_left
    · intro w hSw; (try dsimp only at hSw); go_simp; (try with_reducible rfl)
    (try simp only [Act.put, uS28, xA, xB, xC])
    refine tkV (v := ?_) 29 uS29 ?_ ?_
    rotate_left
    · intro w hSw; (try dsimp only at hSw); go_simp; (try with_reducible rfl)
    (try simp only [Act.put, uS29, xA, xB, xC])
    refine tkV (v := ?_) 30 uS30 ?_ ?_
    rotate_left
    · intro w hSw; (try dsimp only at hSw); go_simp; (try with_reducible rfl)
    (try simp only [Act.put, uS30, xA, xB, xC])
    refine tkV (v := ?_) 31 uS31 ?_ ?_
    rotate_left
    · intro w hSw; (try dsimp only at hSw); go_simp; (try with_reducible rfl)
    (try simp only [Act.put, uS31, xA, xB, xC])
    refine tkE 32 uS32 rfl (by kernel_rfl) (fun K hK => ?_)
    go_simp
    (refine (CUc.out _ (K00.out.trans (K3.out.trans (by first | assumption | exact Kp.drew _)))).mono ?_; rintro e w' ⟨rfl, k1⟩; have k2 := Kp.trans (show Kp w3 _ from (by first | assumption | exact Kp.drew _)) k1; clear k1)
    (try go_wp2_with fail)
    refine hK.out _ _ ?_ (fun hHeld4 => ?_)
    · (try dsimp only); exact KS.out _ (by first | assumption | exact Kp.drew _)
    clear hK K hHeld3
    (try simp only [Act.put, uS32, xA, xB, xC])
    refine tkV (v := ?_) 33 uS33 ?_ ?_
    rotate_left
    · intro w hSw; (try dsimp only at hSw); go_simp; (try with_reducible rfl)
    (try simp only [Act.put, uS33, xA, xB, xC])
    refine tkV (v := ?_) 34 uS34 ?_ ?_
    rotate_left
    · intro w hSw; (try dsimp only at hSw); go_simp; (try with_reducible rfl)
    (try simp only [Act.put, uS34, xA, xB, xC])
    refine tkV (v := ?_) 35 uS35 ?_ ?_
    rotate_left
    · intro w hSw; (try dsimp only at hSw); go_simp; (try with_reducible rfl)
    (try simp only [Act.put, uS35, xA, xB, xC])
    refine tkV (v := ?_) 36 uS36 ?_ ?_
    rotate_left
    · intro w hSw; (try dsimp only at hSw); go_simp; (try with_reducible rfl)
    (try simp only [Act.put, uS36, xA, xB, xC])
    refine tkV (v := ?_) 37 uS37 ?_ ?_
    rotate_left
    · intro w hSw; (try dsimp only at hSw); go_simp; (try with_reducible rfl)
    (try simp only [Act.put, uS37, xA, xB, xC])
    refine wpAnyH_done (by kernel_rfl) ?_ _
    go_wp2
    go_ret
    exact ⟨rfl, K00.out.trans (K3.out.trans k2)⟩
  | true =>
    have gm : decide (0 ≤ i) = true := hb0
    have hi0 := of_decide_eq_true hb0
    have t1 : Int.tdiv i 12 = i / 12 := Int.tdiv_eq_ediv_of_nonneg hi0
    have t2 : Int.tmod i 12 = i % 12 := Int.tmod_eq_emod_of_nonneg hi0
    simp only [Bool.true_and] at CHH
    clear hb0
    cases b1 with
    | false =>
      simp only [Bool.false_and] at CHH
      go_enter Tryd.func4, Tryd.ntmps4
      go_wp2_with fail
      rw [← HW.out]
      refine (AW.out _ (K00.out.trans (by first | with_reducible exact K0.out | with_reducible exact K0.out.trans (Kp.alloc _ _) | with_reducible exact (K0.out.trans (Kp.alloc _ _)).trans (Kp.alloc _ _) | with_reducible exact ((K0.out.trans (Kp.alloc _ _)).trans (Kp.alloc _ _)).trans (Kp.alloc _ _) | with_reducible exact K0.out.trans (Kp.drew _) | with_reducible exact K0.out.trans (Kp.drewN _ _)))).mono ?_
      rintro e w1 ⟨rfl, kk⟩
      have K1 := Lib.hid ((show Kp W0 _ from (by first | with_reducible exact K0.out | with_reducible exact K0.out.trans (Kp.alloc _ _) | with_reducible exact (K0.out.trans (Kp.alloc _ _)).trans (Kp.alloc _ _) | with_reducible exact ((K0.out.trans (Kp.alloc _ _)).trans (Kp.alloc _ _)).trans (Kp.alloc _ _) | with_reducible exact K0.out.trans (Kp.drew _) | with_reducible exact K0.out.trans (Kp.drewN _ _))).trans kk)
      clear kk
      clear c0 c1 c2 c3
      obtain ⟨c0, c1, c2, c3⟩ := HB.out w1 K1.out
      go_wp2_with fail
      refine (SH.out _ (K00.out.trans (by first | with_reducible exact K1.out | with_reducible exact K1.out.trans (Kp.alloc _ _) | with_reducible exact (K1.out.trans (Kp.alloc _ _)).trans (Kp.alloc _ _) | with_reducible exact ((K1.out.trans (Kp.alloc _ _)).trans (Kp.alloc _ _)).trans (Kp.alloc _ _) | with_reducible exact K1.out.trans (Kp.drew _) | with_reducible exact K1.out.trans (Kp.drewN _ _)))).mono ?_
      rintro e w2 ⟨rfl, kk⟩
      have K2 := Lib.hid ((show Kp W0 _ from (by first | with_reducible exact K1.out | with_reducible exact K1.out.trans (Kp.alloc _ _) | with_reducible exact (K1.out.trans (Kp.alloc _ _)).trans (Kp.alloc _ _) | with_reducible exact ((K1.out.trans (Kp.alloc _ _)).trans (Kp.alloc _ _)).trans (Kp.alloc _ _) | with_reducible exact K1.out.trans (Kp.drew _) | with_reducible exact K1.out.trans (Kp.drewN _ _))).trans kk)
      clear kk
      clear c0 c1 c2 c3
      obtain ⟨c0, c1, c2, c3⟩ := HB.out w2 K2.out
      go_wp2_with fail
      refine (STH.out _ (K00.out.trans (by first | with_reducible exact K2.out | with_reducible exact K2.out.trans (Kp.alloc _ _) | with_reducible exact (K2.out.trans (Kp.alloc _ _)).trans (Kp.alloc _ _) | with_reducible exact ((K2.out.trans (Kp.alloc _ _)).trans (Kp.alloc _ _)).trans (Kp.alloc _ _) | with_reducible exact K2.out.trans (Kp.drew _) | with_reducible exact K2.out.trans (Kp.drewN _ _)))).mono ?_
      rintro e w3 ⟨v3, rfl, own3, kk⟩
      have K3 := Lib.hid ((show Kp W0 _ from (by first | with_reducible exact K2.out | with_reducible exact K2.out.trans (Kp.alloc _ _) | with_reducible exact (K2.out.trans (Kp.alloc _ _)).trans (Kp.alloc _ _) | with_reducible exact ((K2.out.trans (Kp.alloc _ _)).trans (Kp.alloc _ _)).trans (Kp.alloc _ _) | with_reducible exact K2.out.trans (Kp.drew _) | with_reducible exact K2.out.trans (Kp.drewN _ _))).trans kk)
      have RS := Lib.hid (fun w1 (q : Kp w3 w1) => (runsAt_own own3).kp q)
      obtain ⟨aS, cS, rfl⟩ := own_slice own3
      clear own3
      clear kk
      clear c0 c1 c2 c3
      obtain ⟨c0, c1, c2, c3⟩ := HB.out w3 K3.out
      have G3_3 := Lib.hid (Kp.refl w3)
      go_wp2_with fail
      refine (M1.out _).mono ?_
      rintro e w4 ⟨rfl, kk⟩
      have K4 := Lib.hid ((show Kp W0 _ from (by first | with_reducible exact K3.out | with_reducible exact K3.out.trans (Kp.alloc _ _) | with_reducible exact (K3.out.trans (Kp.alloc _ _)).trans (Kp.alloc _ _) | with_reducible exact ((K3.out.trans (Kp.alloc _ _)).trans (Kp.alloc _ _)).trans (Kp.alloc _ _) | with_reducible exact K3.out.trans (Kp.drew _) | with_reducible exact K3.out.trans (Kp.drewN _ _))).trans kk)
      have G3_4 := Lib.hid (G3_3.out.trans ((show Kp w3 _ from (by first | with_reducible exact Kp.refl _ | with_reducible exact Kp.alloc _ _ | with_reducible exact (Kp.alloc _ _).trans (Kp.alloc _ _) | with_reducible exact ((Kp.alloc _ _).trans (Kp.alloc _ _)).trans (Kp.alloc _ _) | with_reducible exact Kp.drew _ | with_reducible exact Kp.drewN _ _)).trans kk))
      clear kk
      clear c0 c1 c2 c3
      obtain ⟨c0, c1, c2, c3⟩ := HB.out w4 K4.out
      rcases RS.out _ G3_4.out with ⟨_, _, _, e⟩ | ⟨bS, oS, capS, evS, hcS, hmS, hxS⟩
      · exfalso; have := HN.out; rw [e] at this; simp at this
      cases evS
      have e1 := (hxS 0 (by have := HN.out; omega)).1
      have e2 := (hxS n (by have := HN.out; omega)).2
      rw [Nat.zero_mul, Nat.add_zero, HLO.out] at e1
      rw [HHI.out] at e2
      clear hxS hcS hmS
      have KS := Lib.hid (fun w' (kq : Kp w4 w') => show w'.cell? ⟨w.heap.size, 0, none⟩ = some (.int .i64 1) ∧ w'.cell? ⟨w.heap.size, 1, none⟩ = some (.string yp) ∧ w'.cell? ⟨w.heap.size, 2, none⟩ = some (.string mp) ∧ w'.cell? ⟨w.heap.size, 3, none⟩ = some (.string dp) ∧ w'.cell? ⟨bS, oS, none⟩ = some (.int .i64 lo) ∧ w'.cell? ⟨bS, oS + n * 2 + 1, none⟩ = some (.int .i64 hi') ∧ Kp w4 w' from ⟨(HB.out w' (K4.out.trans kq)).1, (HB.out w' (K4.out.trans kq)).2.1, (HB.out w' (K4.out.trans kq)).2.2.1, (HB.out w' (K4.out.trans kq)).2.2.2, cell_up kq e1, cell_up kq e2, kq⟩)
      go_wp2_with fail
      refine wp_region_held_drew (S := fun w' => w'.cell? ⟨w.heap.size, 0, none⟩ = some (.int .i64 1) ∧ w'.cell? ⟨w.heap.size, 1, none⟩ = some (.string yp) ∧ w'.cell? ⟨w.heap.size, 2, none⟩ = some (.string mp) ∧ w'.cell? ⟨w.heap.size, 3, none⟩ = some (.string dp) ∧ w'.cell? ⟨bS, oS, none⟩ = some (.int .i64 lo) ∧ w'.cell? ⟨bS, oS + n * 2 + 1, none⟩ = some (.int .i64 hi') ∧ Kp w4 w') (by kernel_rfl) ?_ (fun hHeld0 => ?_)
      · (try dsimp only); exact KS.out _ (by first | assumption | exact Kp.drew _)
      refine tkV (v := ?_) 0 uS0 ?_ ?_
      rotate_left
      · intro w hSw; (try dsimp only at hSw); go_simp; (try with_reducible rfl)
      (try simp only [Act.put, uS0, xA, xB, xC])
      refine tkV (v := ?_) 1 uS1 ?_ ?_
      rotate_left
      · intro w hSw; (try dsimp only at hSw); go_simp; (try with_reducible rfl)
      (try simp only [Act.put, uS1, xA, xB, xC])
      refine tkV (v := ?_) 2 uS2 ?_ ?_
      rotate_left
      · intro w hSw; (try dsimp only at hSw); go_simp; (try with_reducible rfl)
      (try simp only [Act.put, uS2, xA, xB, xC])
      refine tkE 3 uS3 rfl (by kernel_rfl) (fun K hK => ?_)
      go_simp
      (refine (CSn.out _ _ (RS.out _ (G3_4.out.trans (by first | assumption | exact Kp.drew _)))).mono ?_; rintro e w' ⟨rfl, k1⟩; have k2 := Kp.trans (show Kp w4 _ from (by first | assumption | exact Kp.drew _)) k1; clear k1)
      (try go_wp2_with fail)
      refine hK.out _ _ ?_ (fun hHeld1 => ?_)
      · (try dsimp only); exact KS.out _ (by first | assumption | exact Kp.drew _)
      clear hK K hHeld0
      (try simp only [Act.put, uS3, xA, xB, xC])
      refine tkV (v := ?_) 4 uS4 ?_ ?_
      rotate_left
      · intro w hSw; (try dsimp only at hSw); go_simp; (try with_reducible rfl)
      (try simp only [Act.put, uS4, xA, xB, xC])
      refine tkV (v := ?_) 5 uS5 ?_ ?_
      rotate_left
      · intro w hSw; (try dsimp only at hSw); go_simp; (try with_reducible rfl)
      (try simp only [Act.put, uS5, xA, xB, xC])
      refine tkV (v := ?_) 6 uS6 ?_ ?_
      rotate_left
      · intro w hSw; (try dsimp only at hSw); go_simp; (try with_reducible rfl)
      (try simp only [Act.put, uS6, xA, xB, xC])
      refine tkV (v := ?_) 7 uS7 ?_ ?_
      rotate_left
      · intro w hSw; (try dsimp only at hSw); go_simp; (try with_reducible rfl)
      (try simp only [Act.put, uS7, xA, xB, xC])
      refine tkV (v := ?_) 9 uS9 ?_ ?_
      rotate_left
      · intro w hSw; (try dsimp only at hSw); go_simp; (try with_reducible rfl)
      (try simp only [Act.put, uS9, xA, xB, xC])
      refine tkE 8 uS8 rfl (by kernel_rfl) (fun K hK => ?_)
      go_simp
      (refine (CHH.out _ _ _ (RS.out _ (G3_4.out.trans (by first | assumption | exact Kp.drew _)))).mono ?_; rintro e w' ⟨rfl, k1⟩; have k2 := Kp.trans (show Kp w4 _ from (by first | assumption | exact Kp.drew _)) k1; clear k1)
      (try go_wp2_with fail)
      refine hK.out _ _ ?_ (fun hHeld2 => ?_)
      · (try dsimp only); exact KS.out _ (by first | assumption | exact Kp.drew _)
      clear hK K hHeld1
      (try simp only [Act.put, uS8, xA, xB, xC])
      refine tkV (v := ?_) 10 uS10 ?_ ?_
      rotate_left
      · intro w hSw; (try dsimp only at hSw); go_simp; (try with_reducible rfl)
      (try simp only [Act.put, uS10, xA, xB, xC])
      refine tkV (v := ?_) 11 uS11 ?_ ?_
      rotate_left
      · intro w hSw; (try dsimp only at hSw); go_simp; (try with_reducible rfl)
      (try simp only [Act.put, uS11, xA, xB, xC])
      refine tkV (v := ?_) 12 uS12 ?_ ?_
      rotate_left
      · intro w hSw; (try dsimp only at hSw); go_simp; (try with_reducible rfl)
      (try simp only [Act.put, uS12, xA, xB, xC])
      refine tkV (v := ?_) 13 uS13 ?_ ?_
      rotate_left
      · intro w hSw; (try dsimp only at hSw); go_simp; (try with_reducible rfl)
      (try simp only [Act.put, uS13, xA, xB, xC])
      refine tkE 14 uS14 rfl (by kernel_rfl) (fun K hK => ?_)
      go_simp
      (refine (CCt.out _ _ (RS.out _ (G3_4.out.trans (by first | assumption | exact Kp.drew _)))).mono ?_; rintro e w' ⟨rfl, k1⟩; have k2 := Kp.trans (show Kp w4 _ from (by first | assumption | exact Kp.drew _)) k1; clear k1)
      (try go_wp2_with fail)
      refine hK.out _ _ ?_ (fun hHeld3 => ?_)
      · (try dsimp only); exact KS.out _ (by first | assumption | exact Kp.drew _)
      clear hK K hHeld2
      (try simp only [Act.put, uS14, xA, xB, xC])
      refine tkV (v := ?_) 15 uS15 ?_ ?_
      rotate_left
      · intro w hSw; (try dsimp only at hSw); go_simp; (try with_reducible rfl)
      (try simp only [Act.put, uS15, xA, xB, xC])
      refine tkV (v := ?_) 16 uS16 ?_ ?_
      rotate_left
      · intro w hSw; (try dsimp only at hSw); go_simp; (try with_reducible rfl)
      (try simp only [Act.put, uS16, xA, xB, xC])
      refine tkV (v := ?_) 17 uS17 ?_ ?_
      rotate_left
      · intro w hSw; (try dsimp only at hSw); go_simp; (try with_reducible rfl)
      (try simp only [Act.put, uS17, xA, xB, xC])
      refine tkV (v := ?_) 18 uS18 ?_ ?_
      rotate_left
      · intro w hSw; (try dsimp only at hSw); go_simp; (try with_reducible rfl)
      (try simp only [Act.put, uS18, xA, xB, xC])
      refine tkV (v := ?_) 19 uS19 ?_ ?_
      rotate_left
      · intro w hSw; (try dsimp only at hSw); go_simp; (try with_reducible rfl)
      (try simp only [Act.put, uS19, xA, xB, xC])
      refine tkV (v := ?_) 20 uS20 ?_ ?_
      rotate_left
      · intro w hSw; (try dsimp only at hSw); go_simp; (try with_reducible rfl)
      (try simp only [Act.put, uS20, xA, xB, xC])
      refine tkV (v := ?_) 21 uS21 ?_ ?_
      rotate_left
      · intro w hSw; (try dsimp only at hSw); go_simp; (try with_reducible rfl)
      (try simp only [Act.put, uS21, xA, xB, xC])
      refine tkV (v := ?_) 22 uS22 ?_ ?_
      rotate_left
      · intro w hSw; (try dsimp only at hSw); go_simp; (try with_reducible rfl)
      (try simp only [Act.put, uS22, xA, xB, xC])
      refine tkV (v := ?_) 23 uS23 ?_ ?_
      rotate_left
      · intro w hSw; (try dsimp only at hSw); go_simp; (try with_reducible rfl)
      (try simp only [Act.put, uS23, xA, xB, xC])
      refine tkV (v := ?_) 24 uS24 ?_ ?_
      rotate_left
      · intro w hSw; (try dsimp only at hSw); go_simp; (try with_reducible rfl)
      (try simp only [Act.put, uS24, xA, xB, xC])
      refine tkV (v := ?_) 25 uS25 ?_ ?_
      rotate_left
      · intro w hSw; (try dsimp only at hSw); go_simp; (try with_reducible rfl)
      (try simp only [Act.put, uS25, xA, xB, xC])
      refine tkV (v := ?_) 26 uS26 ?_ ?_
      rotate_left
      · intro w hSw; (try dsimp only at hSw); go_simp; (try with_reducible rfl)
      (try simp only [Act.put, uS26, xA, xB, xC])
      refine tkV (v := ?_) 27 uS27 ?_ ?_
      rotate_left
      · intro w hSw; (try dsimp only at hSw); go_simp; (try with_reducible rfl)
      (try simp only [Act.put, uS27, xA, xB, xC])
      refine tkV (v := ?_) 28 uS28 ?_ ?_
      rotate_left
      · intro w hSw; (try dsimp only at hSw); go_simp; (try with_reducible rfl)
      (try simp only [Act.put, uS28, xA, xB, xC])
      refine tkV (v := ?_) 29 uS29 ?_ ?_
      rotate_left
      · intro w hSw; (try dsimp only at hSw); go_simp; (try with_reducible rfl)
      (try simp only [Act.put, uS29, xA, xB, xC])
      refine tkV (v := ?_) 30 uS30 ?_ ?_
      rotate_left
      · intro w hSw; (try dsimp only at hSw); go_simp; (try with_reducible rfl)
      (try simp only [Act.put, uS30, xA, xB, xC])
      refine tkV (v := ?_) 31 uS31 ?_ ?_
      rotate_left
      · intro w hSw; (try dsimp only at hSw); go_simp; (try with_reducible rfl)
      (try simp only [Act.put, uS31, xA, xB, xC])
      refine tkE 32 uS32 rfl (by kernel_rfl) (fun K hK => ?_)
      go_simp
      (refine (CUc.out _ (K00.out.trans (K4.out.trans (by first | assumption | exact Kp.drew _)))).mono ?_; rintro e w' ⟨rfl, k1⟩; have k2 := Kp.trans (show Kp w4 _ from (by first | assumption | exact Kp.drew _)) k1; clear k1)
      (try go_wp2_with fail)
      refine hK.out _ _ ?_ (fun hHeld4 => ?_)
      · (try dsimp only); exact KS.out _ (by first | assumption | exact Kp.drew _)
      clear hK K hHeld3
      (try simp only [Act.put, uS32, xA, xB, xC])
      refine tkV (v := ?_) 33 uS33 ?_ ?_
      rotate_left
      · intro w hSw; (try dsimp only at hSw); go_simp; (try with_reducible rfl)
      (try simp only [Act.put, uS33, xA, xB, xC])
      refine tkV (v := ?_) 34 uS34 ?_ ?_
      rotate_left
      · intro w hSw; (try dsimp only at hSw); go_simp; (try with_reducible rfl)
      (try simp only [Act.put, uS34, xA, xB, xC])
      refine tkV (v := ?_) 35 uS35 ?_ ?_
      rotate_left
      · intro w hSw; (try dsimp only at hSw); go_simp; (try with_reducible rfl)
      (try simp only [Act.put, uS35, xA, xB, xC])
      refine tkV (v := ?_) 36 uS36 ?_ ?_
      rotate_left
      · intro w hSw; (try dsimp only at hSw); go_simp; (try with_reducible rfl)
      (try simp only [Act.put, uS36, xA, xB, xC])
      refine tkV (v := ?_) 37 uS37 ?_ ?_
      rotate_left
      · intro w hSw; (try dsimp only at hSw); go_simp; (try with_reducible rfl)
      (try simp only [Act.put, uS37, xA, xB, xC])
      refine wpAnyH_done (by kernel_rfl) ?_ _
      go_wp2
      go_ret
      exact ⟨rfl, K00.out.trans (K4.out.trans k2)⟩
    | true =>
      simp only [Bool.true_and] at CHH
      go_enter Tryd.func4, Tryd.ntmps4
      go_wp2_with fail
      rw [← HW.out]
      refine (AW.out _ (K00.out.trans (by first | with_reducible exact K0.out | with_reducible exact K0.out.trans (Kp.alloc _ _) | with_reducible exact (K0.out.trans (Kp.alloc _ _)).trans (Kp.alloc _ _) | with_reducible exact ((K0.out.trans (Kp.alloc _ _)).trans (Kp.alloc _ _)).trans (Kp.alloc _ _) | with_reducible exact K0.out.trans (Kp.drew _) | with_reducible exact K0.out.trans (Kp.drewN _ _)))).mono ?_
      rintro e w1 ⟨rfl, kk⟩
      have K1 := Lib.hid ((show Kp W0 _ from (by first | with_reducible exact K0.out | with_reducible exact K0.out.trans (Kp.alloc _ _) | with_reducible exact (K0.out.trans (Kp.alloc _ _)).trans (Kp.alloc _ _) | with_reducible exact ((K0.out.trans (Kp.alloc _ _)).trans (Kp.alloc _ _)).trans (Kp.alloc _ _) | with_reducible exact K0.out.trans (Kp.drew _) | with_reducible exact K0.out.trans (Kp.drewN _ _))).trans kk)
      clear kk
      clear c0 c1 c2 c3
      obtain ⟨c0, c1, c2, c3⟩ := HB.out w1 K1.out
      go_wp2_with fail
      refine (SH.out _ (K00.out.trans (by first | with_reducible exact K1.out | with_reducible exact K1.out.trans (Kp.alloc _ _) | with_reducible exact (K1.out.trans (Kp.alloc _ _)).trans (Kp.alloc _ _) | with_reducible exact ((K1.out.trans (Kp.alloc _ _)).trans (Kp.alloc _ _)).trans (Kp.alloc _ _) | with_reducible exact K1.out.trans (Kp.drew _) | with_reducible exact K1.out.trans (Kp.drewN _ _)))).mono ?_
      rintro e w2 ⟨rfl, kk⟩
      have K2 := Lib.hid ((show Kp W0 _ from (by first | with_reducible exact K1.out | with_reducible exact K1.out.trans (Kp.alloc _ _) | with_reducible exact (K1.out.trans (Kp.alloc _ _)).trans (Kp.alloc _ _) | with_reducible exact ((K1.out.trans (Kp.alloc _ _)).trans (Kp.alloc _ _)).trans (Kp.alloc _ _) | with_reducible exact K1.out.trans (Kp.drew _) | with_reducible exact K1.out.trans (Kp.drewN _ _))).trans kk)
      clear kk
      clear c0 c1 c2 c3
      obtain ⟨c0, c1, c2, c3⟩ := HB.out w2 K2.out
      go_wp2_with fail
      refine (STH.out _ (K00.out.trans (by first | with_reducible exact K2.out | with_reducible exact K2.out.trans (Kp.alloc _ _) | with_reducible exact (K2.out.trans (Kp.alloc _ _)).trans (Kp.alloc _ _) | with_reducible exact ((K2.out.trans (Kp.alloc _ _)).trans (Kp.alloc _ _)).trans (Kp.alloc _ _) | with_reducible exact K2.out.trans (Kp.drew _) | with_reducible exact K2.out.trans (Kp.drewN _ _)))).mono ?_
      rintro e w3 ⟨v3, rfl, own3, kk⟩
      have K3 := Lib.hid ((show Kp W0 _ from (by first | with_reducible exact K2.out | with_reducible exact K2.out.trans (Kp.alloc _ _) | with_reducible exact (K2.out.trans (Kp.alloc _ _)).trans (Kp.alloc _ _) | with_reducible exact ((K2.out.trans (Kp.alloc _ _)).trans (Kp.alloc _ _)).trans (Kp.alloc _ _) | with_reducible exact K2.out.trans (Kp.drew _) | with_reducible exact K2.out.trans (Kp.drewN _ _))).trans kk)
      have RS := Lib.hid (fun w1 (q : Kp w3 w1) => (runsAt_own own3).kp q)
      obtain ⟨aS, cS, rfl⟩ := own_slice own3
      clear own3
      clear kk
      clear c0 c1 c2 c3
      obtain ⟨c0, c1, c2, c3⟩ := HB.out w3 K3.out
      have G3_3 := Lib.hid (Kp.refl w3)
      go_wp2_with fail
      refine (M1.out _).mono ?_
      rintro e w4 ⟨rfl, kk⟩
      have K4 := Lib.hid ((show Kp W0 _ from (by first | with_reducible exact K3.out | with_reducible exact K3.out.trans (Kp.alloc _ _) | with_reducible exact (K3.out.trans (Kp.alloc _ _)).trans (Kp.alloc _ _) | with_reducible exact ((K3.out.trans (Kp.alloc _ _)).trans (Kp.alloc _ _)).trans (Kp.alloc _ _) | with_reducible exact K3.out.trans (Kp.drew _) | with_reducible exact K3.out.trans (Kp.drewN _ _))).trans kk)
      have G3_4 := Lib.hid (G3_3.out.trans ((show Kp w3 _ from (by first | with_reducible exact Kp.refl _ | with_reducible exact Kp.alloc _ _ | with_reducible exact (Kp.alloc _ _).trans (Kp.alloc _ _) | with_reducible exact ((Kp.alloc _ _).trans (Kp.alloc _ _)).trans (Kp.alloc _ _) | with_reducible exact Kp.drew _ | with_reducible exact Kp.drewN _ _)).trans kk))
      clear kk
      clear c0 c1 c2 c3
      obtain ⟨c0, c1, c2, c3⟩ := HB.out w4 K4.out
      go_wp2_with fail
      refine (M2.out _).mono ?_
      rintro e w5 ⟨rfl, kk⟩
      have K5 := Lib.hid ((show Kp W0 _ from (by first | with_reducible exact K4.out | with_reducible exact K4.out.trans (Kp.alloc _ _) | with_reducible exact (K4.out.trans (Kp.alloc _ _)).trans (Kp.alloc _ _) | with_reducible exact ((K4.out.trans (Kp.alloc _ _)).trans (Kp.alloc _ _)).trans (Kp.alloc _ _) | with_reducible exact K4.out.trans (Kp.drew _) | with_reducible exact K4.out.trans (Kp.drewN _ _))).trans kk)
      have G3_5 := Lib.hid (G3_4.out.trans ((show Kp w4 _ from (by first | with_reducible exact Kp.refl _ | with_reducible exact Kp.alloc _ _ | with_reducible exact (Kp.alloc _ _).trans (Kp.alloc _ _) | with_reducible exact ((Kp.alloc _ _).trans (Kp.alloc _ _)).trans (Kp.alloc _ _) | with_reducible exact Kp.drew _ | with_reducible exact Kp.drewN _ _)).trans kk))
      clear kk
      clear c0 c1 c2 c3
      obtain ⟨c0, c1, c2, c3⟩ := HB.out w5 K5.out
      rcases RS.out _ G3_5.out with ⟨_, _, _, e⟩ | ⟨bS, oS, capS, evS, hcS, hmS, hxS⟩
      · exfalso; have := HN.out; rw [e] at this; simp at this
      cases evS
      have e1 := (hxS 0 (by have := HN.out; omega)).1
      have e2 := (hxS n (by have := HN.out; omega)).2
      rw [Nat.zero_mul, Nat.add_zero, HLO.out] at e1
      rw [HHI.out] at e2
      clear hxS hcS hmS
      have KS := Lib.hid (fun w' (kq : Kp w5 w') => show w'.cell? ⟨w.heap.size, 0, none⟩ = some (.int .i64 1) ∧ w'.cell? ⟨w.heap.size, 1, none⟩ = some (.string yp) ∧ w'.cell? ⟨w.heap.size, 2, none⟩ = some (.string mp) ∧ w'.cell? ⟨w.heap.size, 3, none⟩ = some (.string dp) ∧ w'.cell? ⟨bS, oS, none⟩ = some (.int .i64 lo) ∧ w'.cell? ⟨bS, oS + n * 2 + 1, none⟩ = some (.int .i64 hi') ∧ Kp w5 w' from ⟨(HB.out w' (K5.out.trans kq)).1, (HB.out w' (K5.out.trans kq)).2.1, (HB.out w' (K5.out.trans kq)).2.2.1, (HB.out w' (K5.out.trans kq)).2.2.2, cell_up kq e1, cell_up kq e2, kq⟩)
      go_wp2_with fail
      refine wp_region_held_drew (S := fun w' => w'.cell? ⟨w.heap.size, 0, none⟩ = some (.int .i64 1) ∧ w'.cell? ⟨w.heap.size, 1, none⟩ = some (.string yp) ∧ w'.cell? ⟨w.heap.size, 2, none⟩ = some (.string mp) ∧ w'.cell? ⟨w.heap.size, 3, none⟩ = some (.string dp) ∧ w'.cell? ⟨bS, oS, none⟩ = some (.int .i64 lo) ∧ w'.cell? ⟨bS, oS + n * 2 + 1, none⟩ = some (.int .i64 hi') ∧ Kp w5 w') (by kernel_rfl) ?_ (fun hHeld0 => ?_)
      · (try dsimp only); exact KS.out _ (by first | assumption | exact Kp.drew _)
      refine tkV (v := ?_) 0 uS0 ?_ ?_
      rotate_left
      · intro w hSw; (try dsimp only at hSw); go_simp; (try with_reducible rfl)
      (try simp only [Act.put, uS0, xA, xB, xC])
      refine tkV (v := ?_) 1 uS1 ?_ ?_
      rotate_left
      · intro w hSw; (try dsimp only at hSw); go_simp; (try with_reducible rfl)
      (try simp only [Act.put, uS1, xA, xB, xC])
      refine tkV (v := ?_) 2 uS2 ?_ ?_
      rotate_left
      · intro w hSw; (try dsimp only at hSw); go_simp; (try with_reducible rfl)
      (try simp only [Act.put, uS2, xA, xB, xC])
      refine tkE 3 uS3 rfl (by kernel_rfl) (fun K hK => ?_)
      go_simp
      (refine (CSn.out _ _ (RS.out _ (G3_5.out.trans (by first | assumption | exact Kp.drew _)))).mono ?_; rintro e w' ⟨rfl, k1⟩; have k2 := Kp.trans (show Kp w5 _ from (by first | assumption | exact Kp.drew _)) k1; clear k1)
      (try go_wp2_with fail)
      refine hK.out _ _ ?_ (fun hHeld1 => ?_)
      · (try dsimp only); exact KS.out _ (by first | assumption | exact Kp.drew _)
      clear hK K hHeld0
      (try simp only [Act.put, uS3, xA, xB, xC])
      refine tkV (v := ?_) 4 uS4 ?_ ?_
      rotate_left
      · intro w hSw; (try dsimp only at hSw); go_simp; (try with_reducible rfl)
      (try simp only [Act.put, uS4, xA, xB, xC])
      refine tkV (v := ?_) 5 uS5 ?_ ?_
      rotate_left
      · intro w hSw; (try dsimp only at hSw); go_simp; (try with_reducible rfl)
      (try simp only [Act.put, uS5, xA, xB, xC])
      refine tkV (v := ?_) 6 uS6 ?_ ?_
      rotate_left
      · intro w hSw; (try dsimp only at hSw); go_simp; (try with_reducible rfl)
      (try simp only [Act.put, uS6, xA, xB, xC])
      refine tkV (v := ?_) 7 uS7 ?_ ?_
      rotate_left
      · intro w hSw; (try dsimp only at hSw); go_simp; (try with_reducible rfl)
      (try simp only [Act.put, uS7, xA, xB, xC])
      refine tkV (v := ?_) 9 uS9 ?_ ?_
      rotate_left
      · intro w hSw; (try dsimp only at hSw); go_simp; (try with_reducible rfl)
      (try simp only [Act.put, uS9, xA, xB, xC])
      refine tkE 8 uS8 rfl (by kernel_rfl) (fun K hK => ?_)
      go_simp
      (refine (CHH.out _ _ _ (RS.out _ (G3_5.out.trans (by first | assumption | exact Kp.drew _)))).mono ?_; rintro e w' ⟨rfl, k1⟩; have k2 := Kp.trans (show Kp w5 _ from (by first | assumption | exact Kp.drew _)) k1; clear k1)
      (try go_wp2_with fail)
      refine hK.out _ _ ?_ (fun hHeld2 => ?_)
      · (try dsimp only); exact KS.out _ (by first | assumption | exact Kp.drew _)
      clear hK K hHeld1
      (try simp only [Act.put, uS8, xA, xB, xC])
      refine tkV (v := ?_) 10 uS10 ?_ ?_
      rotate_left
      · intro w hSw; (try dsimp only at hSw); go_simp; (try with_reducible rfl)
      (try simp only [Act.put, uS10, xA, xB, xC])
      refine tkV (v := ?_) 11 uS11 ?_ ?_
      rotate_left
      · intro w hSw; (try dsimp only at hSw); go_simp; (try with_reducible rfl)
      (try simp only [Act.put, uS11, xA, xB, xC])
      refine tkV (v := ?_) 12 uS12 ?_ ?_
      rotate_left
      · intro w hSw; (try dsimp only at hSw); go_simp; (try with_reducible rfl)
      (try simp only [Act.put, uS12, xA, xB, xC])
      refine tkV (v := ?_) 13 uS13 ?_ ?_
      rotate_left
      · intro w hSw; (try dsimp only at hSw); go_simp; (try with_reducible rfl)
      (try simp only [Act.put, uS13, xA, xB, xC])
      refine tkE 14 uS14 rfl (by kernel_rfl) (fun K hK => ?_)
      go_simp
      (refine (CCt.out _ _ (RS.out _ (G3_5.out.trans (by first | assumption | exact Kp.drew _)))).mono ?_; rintro e w' ⟨rfl, k1⟩; have k2 := Kp.trans (show Kp w5 _ from (by first | assumption | exact Kp.drew _)) k1; clear k1)
      (try go_wp2_with fail)
      refine hK.out _ _ ?_ (fun hHeld3 => ?_)
      · (try dsimp only); exact KS.out _ (by first | assumption | exact Kp.drew _)
      clear hK K hHeld2
      (try simp only [Act.put, uS14, xA, xB, xC])
      refine tkV (v := ?_) 15 uS15 ?_ ?_
      rotate_left
      · intro w hSw; (try dsimp only at hSw); go_simp; (try with_reducible rfl)
      (try simp only [Act.put, uS15, xA, xB, xC])
      refine tkV (v := ?_) 16 uS16 ?_ ?_
      rotate_left
      · intro w hSw; (try dsimp only at hSw); go_simp; (try with_reducible rfl)
      (try simp only [Act.put, uS16, xA, xB, xC])
      refine tkV (v := ?_) 17 uS17 ?_ ?_
      rotate_left
      · intro w hSw; (try dsimp only at hSw); go_simp; (try with_reducible rfl)
      (try simp only [Act.put, uS17, xA, xB, xC])
      refine tkV (v := ?_) 18 uS18 ?_ ?_
      rotate_left
      · intro w hSw; (try dsimp only at hSw); go_simp; (try with_reducible rfl)
      (try simp only [Act.put, uS18, xA, xB, xC])
      refine tkV (v := ?_) 19 uS19 ?_ ?_
      rotate_left
      · intro w hSw; (try dsimp only at hSw); go_simp; (try with_reducible rfl)
      (try simp only [Act.put, uS19, xA, xB, xC])
      refine tkV (v := ?_) 20 uS20 ?_ ?_
      rotate_left
      · intro w hSw; (try dsimp only at hSw); go_simp; (try with_reducible rfl)
      (try simp only [Act.put, uS20, xA, xB, xC])
      refine tkV (v := ?_) 21 uS21 ?_ ?_
      rotate_left
      · intro w hSw; (try dsimp only at hSw); go_simp; (try with_reducible rfl)
      (try simp only [Act.put, uS21, xA, xB, xC])
      refine tkV (v := ?_) 22 uS22 ?_ ?_
      rotate_left
      · intro w hSw; (try dsimp only at hSw); go_simp; (try with_reducible rfl)
      (try simp only [Act.put, uS22, xA, xB, xC])
      refine tkV (v := ?_) 23 uS23 ?_ ?_
      rotate_left
      · intro w hSw; (try dsimp only at hSw); go_simp; (try with_reducible rfl)
      (try simp only [Act.put, uS23, xA, xB, xC])
      refine tkV (v := ?_) 24 uS24 ?_ ?_
      rotate_left
      · intro w hSw; (try dsimp only at hSw); go_simp; (try with_reducible rfl)
      (try simp only [Act.put, uS24, xA, xB, xC])
      refine tkV (v := ?_) 25 uS25 ?_ ?_
      rotate_left
      · intro w hSw; (try dsimp only at hSw); go_simp; (try with_reducible rfl)
      (try simp only [Act.put, uS25, xA, xB, xC])
      refine tkV (v := ?_) 26 uS26 ?_ ?_
      rotate_left
      · intro w hSw; (try dsimp only at hSw); go_simp; (try with_reducible rfl)
      (try simp only [Act.put, uS26, xA, xB, xC])
      refine tkV (v := ?_) 27 uS27 ?_ ?_
      rotate_left
      · intro w hSw; (try dsimp only at hSw); go_simp; (try with_reducible rfl)
      (try simp only [Act.put, uS27, xA, xB, xC])
      refine tkV (v := ?_) 28 uS28 ?_ ?_
      rotate_left
      · intro w hSw; (try dsimp only at hSw); go_simp; (try with_reducible rfl)
      (try simp only [Act.put, uS28, xA, xB, xC])
      refine tkV (v := ?_) 29 uS29 ?_ ?_
      rotate_left
      · intro w hSw; (try dsimp only at hSw); go_simp; (try with_reducible rfl)
      (try simp only [Act.put, uS29, xA, xB, xC])
      refine tkV (v := ?_) 30 uS30 ?_ ?_
      rotate_left
      · intro w hSw; (try dsimp only at hSw); go_simp; (try with_reducible rfl)
      (try simp only [Act.put, uS30, xA, xB, xC])
      refine tkV (v := ?_) 31 uS31 ?_ ?_
      rotate_left
      · intro w hSw; (try dsimp only at hSw); go_simp; (try with_reducible rfl)
      (try simp only [Act.put, uS31, xA, xB, xC])
      refine tkE 32 uS32 rfl (by kernel_rfl) (fun K hK => ?_)
      go_simp
      (refine (CUc.out _ (K00.out.trans (K5.out.trans (by first | assumption | exact Kp.drew _)))).mono ?_; rintro e w' ⟨rfl, k1⟩; have k2 := Kp.trans (show Kp w5 _ from (by first | assumption | exact Kp.drew _)) k1; clear k1)
      (try go_wp2_with fail)
      refine hK.out _ _ ?_ (fun hHeld4 => ?_)
      · (try dsimp only); exact KS.out _ (by first | assumption | exact Kp.drew _)
      clear hK K hHeld3
      (try simp only [Act.put, uS32, xA, xB, xC])
      refine tkV (v := ?_) 33 uS33 ?_ ?_
      rotate_left
      · intro w hSw; (try dsimp only at hSw); go_simp; (try with_reducible rfl)
      (try simp only [Act.put, uS33, xA, xB, xC])
      refine tkV (v := ?_) 34 uS34 ?_ ?_
      rotate_left
      · intro w hSw; (try dsimp only at hSw); go_simp; (try with_reducible rfl)
      (try simp only [Act.put, uS34, xA, xB, xC])
      refine tkV (v := ?_) 35 uS35 ?_ ?_
      rotate_left
      · intro w hSw; (try dsimp only at hSw); go_simp; (try with_reducible rfl)
      (try simp only [Act.put, uS35, xA, xB, xC])
      refine tkV (v := ?_) 36 uS36 ?_ ?_
      rotate_left
      · intro w hSw; (try dsimp only at hSw); go_simp; (try with_reducible rfl)
      (try simp only [Act.put, uS36, xA, xB, xC])
      refine tkV (v := ?_) 37 uS37 ?_ ?_
      rotate_left
      · intro w hSw; (try dsimp only at hSw); go_simp; (try with_reducible rfl)
      (try simp only [Act.put, uS37, xA, xB, xC])
      refine wpAnyH_done (by kernel_rfl) ?_ _
      go_wp2
      go_ret
      exact ⟨rfl, K00.out.trans (K5.out.trans k2)⟩
set_option maxHeartbeats 16000000 in
set_option maxRecDepth 100000 in
theorem units_2e (p : PT) (i : Int) (w : World) (hp1 : -9223372036854775808 ≤ p.k) (hp2 : p.k ≤ 9223372036854775807) (hi1 : -9223372036854775808 ≤ i) (hi2 : i ≤ 9223372036854775807) (T : Tabs8 w) (hs : shortP p = true) (he : setE p = 0) (hS : saneP p = true) (hN : numB p = true) (hR : setS p = numR p) (hk : p.k = 2) (hne : numR p = []) :
    Calls Tryd.prog 4 #[ptV p, .int .i64 i] w fun e w' => e = .returned (.bool true) ∧ Kp w w' := by
  have AW := Lib.hid (fun w1 (kk : Kp w w1) => awake08 w1 (T.kp kk))
  have SH := Lib.hid (fun w1 (kk : Kp w w1) => short_any p w1)
  rw [hs] at SH
  have ST := fun w1 (kk : Kp w w1) => pset_any p w1 (T.kp kk)
  rw [he, hR] at ST
  have STH := Lib.hid ST
  have HU := numR_has hS hN i
  have IN := numR_inn hS hN
  have LN := numR_len p
  have SS := numR_sane p
  have CUc := Lib.hid (fun w1 (kk : Kp w w1) => countC p.k w1 (T.kp kk).1)
  have ck := cnt_bd p.k
  unfold inU at HU
  rw [if_neg (by rw [hk]; decide), if_neg (by rw [hk]; decide), if_pos hk] at HU
  have hz : sumR (nf (numR p)) = 0 := by rw [hne]; rfl
  have CSn := Lib.hid (fun v w1 (h : RunsAt w1 v (numR p)) => sane_yes v (numR p) w1 h SS)
  have CHs := fun ad c w1 (h : RunsAt w1 (.slice ad (numR p).length c) (numR p)) => has_any ad c (numR p) i w1 h (sane_i64 SS) (by omega) hi1 hi2
  have CCt := Lib.hid (fun v w1 (h : RunsAt w1 v (numR p)) => scount_any v (numR p) w1 h (sane_i64 SS) (by omega))
  rw [HU] at CHs
  have CHH := Lib.hid CHs
  have M1 := Lib.hid (fun w1 => mmatch_any p.y (i / 4) w1 (by omega) (by omega))
  have M2 := Lib.hid (fun w1 => mmatch_any p.m (i % 4 + 1) w1 (by omega) (by omega))
  generalize sumR (nf (numR p)) = cs at *
  generalize numR p = S at *
  generalize matchM p.y (i / 4) = b1 at *
  generalize matchM p.m (i % 4 + 1) = b2 at *
  obtain ⟨b0, hb0⟩ : ∃ b, decide (0 ≤ i) = b := ⟨_, rfl⟩
  rw [hb0] at CHH
  generalize cnt p.k = cu at *
  subst hz hne
  clear hs he hS hN hR T ST HU CHs SS LN IN ck
  obtain ⟨kp, yp, mp, dp⟩ := p
  unfold ptV at *
  simp only at *
  obtain ⟨W0, hW⟩ : ∃ W0, W0 = w.alloc (.cells #[.int .i64 kp, .string yp, .string mp, .string dp] 23) := ⟨_, rfl⟩
  have K00 := Lib.hid (show Kp w W0 by rw [hW]; exact Kp.alloc _ _)
  have HB := Lib.hid (fun w1 (k : Kp W0 w1) => show w1.cell? ⟨w.heap.size, 0, none⟩ = some (.int .i64 kp) ∧ w1.cell? ⟨w.heap.size, 1, none⟩ = some (.string yp) ∧ w1.cell? ⟨w.heap.size, 2, none⟩ = some (.string mp) ∧ w1.cell? ⟨w.heap.size, 3, none⟩ = some (.string dp) from ⟨cell_up k (show W0.cell? ⟨w.heap.size, 0, none⟩ = some (.int .i64 kp) by rw [hW]; simp), cell_up k (show W0.cell? ⟨w.heap.size, 1, none⟩ = some (.string yp) by rw [hW]; simp), cell_up k (show W0.cell? ⟨w.heap.size, 2, none⟩ = some (.string mp) by rw [hW]; simp), cell_up k (show W0.cell? ⟨w.heap.size, 3, none⟩ = some (.string dp) by rw [hW]; simp)⟩)
  obtain ⟨c0, c1, c2, c3⟩ := HB.out W0 (Kp.refl _)
  have K0 := Lib.hid (Kp.refl W0)
  have HW := Lib.hid hW
  clear hW
  (try simp only at *)
  subst hk
  cases b0 with
  | false =>
    have gm : decide (0 ≤ i) = false := hb0
    simp only [Bool.false_and] at CHH
    clear hb0
    go_enter Tryd.func4, Tryd.ntmps4
    go_wp2_with fail
    rw [← HW.out]
    refine (AW.out _ (K00.out.trans (by first | with_reducible exact K0.out | with_reducible exact K0.out.trans (Kp.alloc _ _) | with_reducible exact (K0.out.trans (Kp.alloc _ _)).trans (Kp.alloc _ _) | with_reducible exact ((K0.out.trans (Kp.alloc _ _)).trans (Kp.alloc _ _)).trans (Kp.alloc _ _) | with_reducible exact K0.out.trans (Kp.drew _) | with_reducible exact K0.out.trans (Kp.drewN _ _)))).mono ?_
    rintro e w1 ⟨rfl, kk⟩
    have K1 := Lib.hid ((show Kp W0 _ from (by first | with_reducible exact K0.out | with_reducible exact K0.out.trans (Kp.alloc _ _) | with_reducible exact (K0.out.trans (Kp.alloc _ _)).trans (Kp.alloc _ _) | with_reducible exact ((K0.out.trans (Kp.alloc _ _)).trans (Kp.alloc _ _)).trans (Kp.alloc _ _) | with_reducible exact K0.out.trans (Kp.drew _) | with_reducible exact K0.out.trans (Kp.drewN _ _))).trans kk)
    clear kk
    clear c0 c1 c2 c3
    obtain ⟨c0, c1, c2, c3⟩ := HB.out w1 K1.out
    go_wp2_with fail
    refine (SH.out _ (K00.out.trans (by first | with_reducible exact K1.out | with_reducible exact K1.out.trans (Kp.alloc _ _) | with_reducible exact (K1.out.trans (Kp.alloc _ _)).trans (Kp.alloc _ _) | with_reducible exact ((K1.out.trans (Kp.alloc _ _)).trans (Kp.alloc _ _)).trans (Kp.alloc _ _) | with_reducible exact K1.out.trans (Kp.drew _) | with_reducible exact K1.out.trans (Kp.drewN _ _)))).mono ?_
    rintro e w2 ⟨rfl, kk⟩
    have K2 := Lib.hid ((show Kp W0 _ from (by first | with_reducible exact K1.out | with_reducible exact K1.out.trans (Kp.alloc _ _) | with_reducible exact (K1.out.trans (Kp.alloc _ _)).trans (Kp.alloc _ _) | with_reducible exact ((K1.out.trans (Kp.alloc _ _)).trans (Kp.alloc _ _)).trans (Kp.alloc _ _) | with_reducible exact K1.out.trans (Kp.drew _) | with_reducible exact K1.out.trans (Kp.drewN _ _))).trans kk)
    clear kk
    clear c0 c1 c2 c3
    obtain ⟨c0, c1, c2, c3⟩ := HB.out w2 K2.out
    go_wp2_with fail
    refine (STH.out _ (K00.out.trans (by first | with_reducible exact K2.out | with_reducible exact K2.out.trans (Kp.alloc _ _) | with_reducible exact (K2.out.trans (Kp.alloc _ _)).trans (Kp.alloc _ _) | with_reducible exact ((K2.out.trans (Kp.alloc _ _)).trans (Kp.alloc _ _)).trans (Kp.alloc _ _) | with_reducible exact K2.out.trans (Kp.drew _) | with_reducible exact K2.out.trans (Kp.drewN _ _)))).mono ?_
    rintro e w3 ⟨v3, rfl, own3, kk⟩
    have K3 := Lib.hid ((show Kp W0 _ from (by first | with_reducible exact K2.out | with_reducible exact K2.out.trans (Kp.alloc _ _) | with_reducible exact (K2.out.trans (Kp.alloc _ _)).trans (Kp.alloc _ _) | with_reducible exact ((K2.out.trans (Kp.alloc _ _)).trans (Kp.alloc _ _)).trans (Kp.alloc _ _) | with_reducible exact K2.out.trans (Kp.drew _) | with_reducible exact K2.out.trans (Kp.drewN _ _))).trans kk)
    have RS := Lib.hid (fun w1 (q : Kp w3 w1) => (runsAt_own own3).kp q)
    obtain ⟨aS, cS, rfl⟩ := own_slice own3
    clear own3
    clear kk
    clear c0 c1 c2 c3
    obtain ⟨c0, c1, c2, c3⟩ := HB.out w3 K3.out
    have G3_3 := Lib.hid (Kp.refl w3)
    have KS := Lib.hid (fun w' (kq : Kp w3 w') => show w'.cell? ⟨w.heap.size, 0, none⟩ = some (.int .i64 2) ∧ w'.cell? ⟨w.heap.size, 1, none⟩ = some (.string yp) ∧ w'.cell? ⟨w.heap.size, 2, none⟩ = some (.string mp) ∧ w'.cell? ⟨w.heap.size, 3, none⟩ = some (.string dp) ∧ Kp w3 w' from ⟨(HB.out w' (K3.out.trans kq)).1, (HB.out w' (K3.out.trans kq)).2.1, (HB.out w' (K3.out.trans kq)).2.2.1, (HB.out w' (K3.out.trans kq)).2.2.2, kq⟩)
    go_wp2_with fail
    refine wp_region_held_drew (S := fun w' => w'.cell? ⟨w.heap.size, 0, none⟩ = some (.int .i64 2) ∧ w'.cell? ⟨w.heap.size, 1, none⟩ = some (.string yp) ∧ w'.cell? ⟨w.heap.size, 2, none⟩ = some (.string mp) ∧ w'.cell? ⟨w.heap.size, 3, none⟩ = some (.string dp) ∧ Kp w3 w') (by kernel_rfl) ?_ (fun hHeld0 => ?_)
    · (try dsimp only); exact KS.out _ (by first | assumption | exact Kp.drew _)
    refine tkV (v := ?_) 0 uS0 ?_ ?_
    rotate_left
    · intro w hSw; (try dsimp only at hSw); go_simp; (try with_reducible rfl)
    (try simp only [Act.put, uS0, xA, xB, xC])
    refine tkV (v := ?_) 1 uS1 ?_ ?_
    rotate_left
    · intro w hSw; (try dsimp only at hSw); go_simp; (try with_reducible rfl)
    (try simp only [Act.put, uS1, xA, xB, xC])
    refine tkV (v := ?_) 2 uS2 ?_ ?_
    rotate_left
    · intro w hSw; (try dsimp only at hSw); go_simp; (try with_reducible rfl)
    (try simp only [Act.put, uS2, xA, xB, xC])
    refine tkE 3 uS3 rfl (by kernel_rfl) (fun K hK => ?_)
    go_simp
    (refine (CSn.out _ _ (RS.out _ (G3_3.out.trans (by first | assumption | exact Kp.drew _)))).mono ?_; rintro e w' ⟨rfl, k1⟩; have k2 := Kp.trans (show Kp w3 _ from (by first | assumption | exact Kp.drew _)) k1; clear k1)
    (try go_wp2_with fail)
    refine hK.out _ _ ?_ (fun hHeld1 => ?_)
    · (try dsimp only); exact KS.out _ (by first | assumption | exact Kp.drew _)
    clear hK K hHeld0
    (try simp only [Act.put, uS3, xA, xB, xC])
    refine tkV (v := ?_) 4 uS4 ?_ ?_
    rotate_left
    · intro w hSw; (try dsimp only at hSw); go_simp; (try with_reducible rfl)
    (try simp only [Act.put, uS4, xA, xB, xC])
    refine tkV (v := ?_) 5 uS5 ?_ ?_
    rotate_left
    · intro w hSw; (try dsimp only at hSw); go_simp; (try with_reducible rfl)
    (try simp only [Act.put, uS5, xA, xB, xC])
    refine tkV (v := ?_) 6 uS6 ?_ ?_
    rotate_left
    · intro w hSw; (try dsimp only at hSw); go_simp; (try with_reducible rfl)
    (try simp only [Act.put, uS6, xA, xB, xC])
    refine tkV (v := ?_) 7 uS7 ?_ ?_
    rotate_left
    · intro w hSw; (try dsimp only at hSw); go_simp; (try with_reducible rfl)
    (try simp only [Act.put, uS7, xA, xB, xC])
    refine tkV (v := ?_) 9 uS9 ?_ ?_
    rotate_left
    · intro w hSw; (try dsimp only at hSw); go_simp; (try with_reducible rfl)
    (try simp only [Act.put, uS9, xA, xB, xC])
    refine tkE 8 uS8 rfl (by kernel_rfl) (fun K hK => ?_)
    go_simp
    (refine (CHH.out _ _ _ (RS.out _ (G3_3.out.trans (by first | assumption | exact Kp.drew _)))).mono ?_; rintro e w' ⟨rfl, k1⟩; have k2 := Kp.trans (show Kp w3 _ from (by first | assumption | exact Kp.drew _)) k1; clear k1)
    (try go_wp2_with fail)
    refine hK.out _ _ ?_ (fun hHeld2 => ?_)
    · (try dsimp only); exact KS.out _ (by first | assumption | exact Kp.drew _)
    clear hK K hHeld1
    (try simp only [Act.put, uS8, xA, xB, xC])
    refine tkV (v := ?_) 10 uS10 ?_ ?_
    rotate_left
    · intro w hSw; (try dsimp only at hSw); go_simp; (try with_reducible rfl)
    (try simp only [Act.put, uS10, xA, xB, xC])
    refine tkV (v := ?_) 11 uS11 ?_ ?_
    rotate_left
    · intro w hSw; (try dsimp only at hSw); go_simp; (try with_reducible rfl)
    (try simp only [Act.put, uS11, xA, xB, xC])
    refine tkV (v := ?_) 12 uS12 ?_ ?_
    rotate_left
    · intro w hSw; (try dsimp only at hSw); go_simp; (try with_reducible rfl)
    (try simp only [Act.put, uS12, xA, xB, xC])
    refine tkV (v := ?_) 13 uS13 ?_ ?_
    rotate_left
    · intro w hSw; (try dsimp only at hSw); go_simp; (try with_reducible rfl)
    (try simp only [Act.put, uS13, xA, xB, xC])
    refine tkE 14 uS14 rfl (by kernel_rfl) (fun K hK => ?_)
    go_simp
    (refine (CCt.out _ _ (RS.out _ (G3_3.out.trans (by first | assumption | exact Kp.drew _)))).mono ?_; rintro e w' ⟨rfl, k1⟩; have k2 := Kp.trans (show Kp w3 _ from (by first | assumption | exact Kp.drew _)) k1; clear k1)
    (try go_wp2_with fail)
    refine hK.out _ _ ?_ (fun hHeld3 => ?_)
    · (try dsimp only); exact KS.out _ (by first | assumption | exact Kp.drew _)
    clear hK K hHeld2
    (try simp only [Act.put, uS14, xA, xB, xC])
    refine tkV (v := ?_) 15 uS15 ?_ ?_
    rotate_left
    · intro w hSw; (try dsimp only at hSw); go_simp; (try with_reducible rfl)
    (try simp only [Act.put, uS15, xA, xB, xC])
    refine tkV (v := ?_) 16 uS16 ?_ ?_
    rotate_left
    · intro w hSw; (try dsimp only at hSw); go_simp; (try with_reducible rfl)
    (try simp only [Act.put, uS16, xA, xB, xC])
    refine tkN 17 uS17 ?_
    (try simp only [Act.put, uS17, xA, xB, xC])
    refine tkN 18 uS18 ?_
    (try simp only [Act.put, uS18, xA, xB, xC])
    refine tkN 19 uS19 ?_
    (try simp only [Act.put, uS19, xA, xB, xC])
    refine tkN 20 uS20 ?_
    (try simp only [Act.put, uS20, xA, xB, xC])
    refine tkN 21 uS21 ?_
    (try simp only [Act.put, uS21, xA, xB, xC])
    refine tkN 22 uS22 ?_
    (try simp only [Act.put, uS22, xA, xB, xC])
    refine tkN 23 uS23 ?_
    (try simp only [Act.put, uS23, xA, xB, xC])
    refine tkN 24 uS24 ?_
    (try simp only [Act.put, uS24, xA, xB, xC])
    refine tkN 25 uS25 ?_
    (try simp only [Act.put, uS25, xA, xB, xC])
    refine tkN 26 uS26 ?_
    (try simp only [Act.put, uS26, xA, xB, xC])
    refine tkN 27 uS27 ?_
    (try simp only [Act.put, uS27, xA, xB, xC])
    refine tkN 28 uS28 ?_
    (try simp only [Act.put, uS28, xA, xB, xC])
    refine tkN 29 uS29 ?_
    (try simp only [Act.put, uS29, xA, xB, xC])
    refine tkN 30 uS30 ?_
    (try simp only [Act.put, uS30, xA, xB, xC])
    refine tkN 31 uS31 ?_
    (try simp only [Act.put, uS31, xA, xB, xC])
    refine tkN 32 uS32 ?_
    (try simp only [Act.put, uS32, xA, xB, xC])
    refine tkN 33 uS33 ?_
    (try simp only [Act.put, uS33, xA, xB, xC])
    refine tkN 34 uS34 ?_
    (try simp only [Act.put, uS34, xA, xB, xC])
    refine tkV (v := ?_) 35 uS35 ?_ ?_
    rotate_left
    · intro w hSw; (try dsimp only at hSw); go_simp; (try with_reducible rfl)
    (try simp only [Act.put, uS35, xA, xB, xC])
    refine tkV (v := ?_) 36 uS36 ?_ ?_
    rotate_left
    · intro w hSw; (try dsimp only at hSw); go_simp; (try with_reducible rfl)
    (try simp only [Act.put, uS36, xA, xB, xC])
    refine tkV (v := ?_) 37 uS37 ?_ ?_
    rotate_left
    · intro w hSw; (try dsimp only at hSw); go_simp; (try with_reducible rfl)
    (try simp only [Act.put, uS37, xA, xB, xC])
    refine wpAnyH_done (by kernel_rfl) ?_ _
    go_wp2
    go_ret
    exact ⟨rfl, K00.out.trans (K3.out.trans k2)⟩
  | true =>
    have gm : decide (0 ≤ i) = true := hb0
    have hi0 := of_decide_eq_true hb0
    have t1 : Int.tdiv i 4 = i / 4 := Int.tdiv_eq_ediv_of_nonneg hi0
    have t2 : Int.tmod i 4 = i % 4 := Int.tmod_eq_emod_of_nonneg hi0
    simp only [Bool.true_and] at CHH
    clear hb0
    cases b1 with
    | false =>
      simp only [Bool.false_and] at CHH
      go_enter Tryd.func4, Tryd.ntmps4
      go_wp2_with fail
      rw [← HW.out]
      refine (AW.out _ (K00.out.trans (by first | with_reducible exact K0.out | with_reducible exact K0.out.trans (Kp.alloc _ _) | with_reducible exact (K0.out.trans (Kp.alloc _ _)).trans (Kp.alloc _ _) | with_reducible exact ((K0.out.trans (Kp.alloc _ _)).trans (Kp.alloc _ _)).trans (Kp.alloc _ _) | with_reducible exact K0.out.trans (Kp.drew _) | with_reducible exact K0.out.trans (Kp.drewN _ _)))).mono ?_
      rintro e w1 ⟨rfl, kk⟩
      have K1 := Lib.hid ((show Kp W0 _ from (by first | with_reducible exact K0.out | with_reducible exact K0.out.trans (Kp.alloc _ _) | with_reducible exact (K0.out.trans (Kp.alloc _ _)).trans (Kp.alloc _ _) | with_reducible exact ((K0.out.trans (Kp.alloc _ _)).trans (Kp.alloc _ _)).trans (Kp.alloc _ _) | with_reducible exact K0.out.trans (Kp.drew _) | with_reducible exact K0.out.trans (Kp.drewN _ _))).trans kk)
      clear kk
      clear c0 c1 c2 c3
      obtain ⟨c0, c1, c2, c3⟩ := HB.out w1 K1.out
      go_wp2_with fail
      refine (SH.out _ (K00.out.trans (by first | with_reducible exact K1.out | with_reducible exact K1.out.trans (Kp.alloc _ _) | with_reducible exact (K1.out.trans (Kp.alloc _ _)).trans (Kp.alloc _ _) | with_reducible exact ((K1.out.trans (Kp.alloc _ _)).trans (Kp.alloc _ _)).trans (Kp.alloc _ _) | with_reducible exact K1.out.trans (Kp.drew _) | with_reducible exact K1.out.trans (Kp.drewN _ _)))).mono ?_
      rintro e w2 ⟨rfl, kk⟩
      have K2 := Lib.hid ((show Kp W0 _ from (by first | with_reducible exact K1.out | with_reducible exact K1.out.trans (Kp.alloc _ _) | with_reducible exact (K1.out.trans (Kp.alloc _ _)).trans (Kp.alloc _ _) | with_reducible exact ((K1.out.trans (Kp.alloc _ _)).trans (Kp.alloc _ _)).trans (Kp.alloc _ _) | with_reducible exact K1.out.trans (Kp.drew _) | with_reducible exact K1.out.trans (Kp.drewN _ _))).trans kk)
      clear kk
      clear c0 c1 c2 c3
      obtain ⟨c0, c1, c2, c3⟩ := HB.out w2 K2.out
      go_wp2_with fail
      refine (STH.out _ (K00.out.trans (by first | with_reducible exact K2.out | with_reducible exact K2.out.trans (Kp.alloc _ _) | with_reducible exact (K2.out.trans (Kp.alloc _ _)).trans (Kp.alloc _ _) | with_reducible exact ((K2.out.trans (Kp.alloc _ _)).trans (Kp.alloc _ _)).trans (Kp.alloc _ _) | with_reducible exact K2.out.trans (Kp.drew _) | with_reducible exact K2.out.trans (Kp.drewN _ _)))).mono ?_
      rintro e w3 ⟨v3, rfl, own3, kk⟩
      have K3 := Lib.hid ((show Kp W0 _ from (by first | with_reducible exact K2.out | with_reducible exact K2.out.trans (Kp.alloc _ _) | with_reducible exact (K2.out.trans (Kp.alloc _ _)).trans (Kp.alloc _ _) | with_reducible exact ((K2.out.trans (Kp.alloc _ _)).trans (Kp.alloc _ _)).trans (Kp.alloc _ _) | with_reducible exact K2.out.trans (Kp.drew _) | with_reducible exact K2.out.trans (Kp.drewN _ _))).trans kk)
      have RS := Lib.hid (fun w1 (q : Kp w3 w1) => (runsAt_own own3).kp q)
      obtain ⟨aS, cS, rfl⟩ := own_slice own3
      clear own3
      clear kk
      clear c0 c1 c2 c3
      obtain ⟨c0, c1, c2, c3⟩ := HB.out w3 K3.out
      have G3_3 := Lib.hid (Kp.refl w3)
      go_wp2_with fail
      refine (M1.out _).mono ?_
      rintro e w4 ⟨rfl, kk⟩
      have K4 := Lib.hid ((show Kp W0 _ from (by first | with_reducible exact K3.out | with_reducible exact K3.out.trans (Kp.alloc _ _) | with_reducible exact (K3.out.trans (Kp.alloc _ _)).trans (Kp.alloc _ _) | with_reducible exact ((K3.out.trans (Kp.alloc _ _)).trans (Kp.alloc _ _)).trans (Kp.alloc _ _) | with_reducible exact K3.out.trans (Kp.drew _) | with_reducible exact K3.out.trans (Kp.drewN _ _))).trans kk)
      have G3_4 := Lib.hid (G3_3.out.trans ((show Kp w3 _ from (by first | with_reducible exact Kp.refl _ | with_reducible exact Kp.alloc _ _ | with_reducible exact (Kp.alloc _ _).trans (Kp.alloc _ _) | with_reducible exact ((Kp.alloc _ _).trans (Kp.alloc _ _)).trans (Kp.alloc _ _) | with_reducible exact Kp.drew _ | with_reducible exact Kp.drewN _ _)).trans kk))
      clear kk
      clear c0 c1 c2 c3
      obtain ⟨c0, c1, c2, c3⟩ := HB.out w4 K4.out
      have KS := Lib.hid (fun w' (kq : Kp w4 w') => show w'.cell? ⟨w.heap.size, 0, none⟩ = some (.int .i64 2) ∧ w'.cell? ⟨w.heap.size, 1, none⟩ = some (.string yp) ∧ w'.cell? ⟨w.heap.size, 2, none⟩ = some (.string mp) ∧ w'.cell? ⟨w.heap.size, 3, none⟩ = some (.string dp) ∧ Kp w4 w' from ⟨(HB.out w' (K4.out.trans kq)).1, (HB.out w' (K4.out.trans kq)).2.1, (HB.out w' (K4.out.trans kq)).2.2.1, (HB.out w' (K4.out.trans kq)).2.2.2, kq⟩)
      go_wp2_with fail
      refine wp_region_held_drew (S := fun w' => w'.cell? ⟨w.heap.size, 0, none⟩ = some (.int .i64 2) ∧ w'.cell? ⟨w.heap.size, 1, none⟩ = some (.string yp) ∧ w'.cell? ⟨w.heap.size, 2, none⟩ = some (.string mp) ∧ w'.cell? ⟨w.heap.size, 3, none⟩ = some (.string dp) ∧ Kp w4 w') (by kernel_rfl) ?_ (fun hHeld0 => ?_)
      · (try dsimp only); exact KS.out _ (by first | assumption | exact Kp.drew _)
      refine tkV (v := ?_) 0 uS0 ?_ ?_
      rotate_left
      · intro w hSw; (try dsimp only at hSw); go_simp; (try with_reducible rfl)
      (try simp only [Act.put, uS0, xA, xB, xC])
      refine tkV (v := ?_) 1 uS1 ?_ ?_
      rotate_left
      · intro w hSw; (try dsimp only at hSw); go_simp; (try with_reducible rfl)
      (try simp only [Act.put, uS1, xA, xB, xC])
      refine tkV (v := ?_) 2 uS2 ?_ ?_
      rotate_left
      · intro w hSw; (try dsimp only at hSw); go_simp; (try with_reducible rfl)
      (try simp only [Act.put, uS2, xA, xB, xC])
      refine tkE 3 uS3 rfl (by kernel_rfl) (fun K hK => ?_)
      go_simp
      (refine (CSn.out _ _ (RS.out _ (G3_4.out.trans (by first | assumption | exact Kp.drew _)))).mono ?_; rintro e w' ⟨rfl, k1⟩; have k2 := Kp.trans (show Kp w4 _ from (by first | assumption | exact Kp.drew _)) k1; clear k1)
      (try go_wp2_with fail)
      refine hK.out _ _ ?_ (fun hHeld1 => ?_)
      · (try dsimp only); exact KS.out _ (by first | assumption | exact Kp.drew _)
      clear hK K hHeld0
      (try simp only [Act.put, uS3, xA, xB, xC])
      refine tkV (v := ?_) 4 uS4 ?_ ?_
      rotate_left
      · intro w hSw; (try dsimp only at hSw); go_simp; (try with_reducible rfl)
      (try simp only [Act.put, uS4, xA, xB, xC])
      refine tkV (v := ?_) 5 uS5 ?_ ?_
      rotate_left
      · intro w hSw; (try dsimp only at hSw); go_simp; (try with_reducible rfl)
      (try simp only [Act.put, uS5, xA, xB, xC])
      refine tkV (v := ?_) 6 uS6 ?_ ?_
      rotate_left
      · intro w hSw; (try dsimp only at hSw); go_simp; (try with_reducible rfl)
      (try simp only [Act.put, uS6, xA, xB, xC])
      refine tkV (v := ?_) 7 uS7 ?_ ?_
      rotate_left
      · intro w hSw; (try dsimp only at hSw); go_simp; (try with_reducible rfl)
      (try simp only [Act.put, uS7, xA, xB, xC])
      refine tkV (v := ?_) 9 uS9 ?_ ?_
      rotate_left
      · intro w hSw; (try dsimp only at hSw); go_simp; (try with_reducible rfl)
      (try simp only [Act.put, uS9, xA, xB, xC])
      refine tkE 8 uS8 rfl (by kernel_rfl) (fun K hK => ?_)
      go_simp
      (refine (CHH.out _ _ _ (RS.out _ (G3_4.out.trans (by first | assumption | exact Kp.drew _)))).mono ?_; rintro e w' ⟨rfl, k1⟩; have k2 := Kp.trans (show Kp w4 _ from (by first | assumption | exact Kp.drew _)) k1; clear k1)
      (try go_wp2_with fail)
      refine hK.out _ _ ?_ (fun hHeld2 => ?_)
      · (try dsimp only); exact KS.out _ (by first | assumption | exact Kp.drew _)
      clear hK K hHeld1
      (try simp only [Act.put, uS8, xA, xB, xC])
      refine tkV (v := ?_) 10 uS10 ?_ ?_
      rotate_left
      · intro w hSw; (try dsimp only at hSw); go_simp; (try with_reducible rfl)
      (try simp only [Act.put, uS10, xA, xB, xC])
      refine tkV (v := ?_) 11 uS11 ?_ ?_
      rotate_left
      · intro w hSw; (try dsimp only at hSw); go_simp; (try with_reducible rfl)
      (try simp only [Act.put, uS11, xA, xB, xC])
      refine tkV (v := ?_) 12 uS12 ?_ ?_
      rotate_left
      · intro w hSw; (try dsimp only at hSw); go_simp; (try with_reducible rfl)
      (try simp only [Act.put, uS12, xA, xB, xC])
      refine tkV (v := ?_) 13 uS13 ?_ ?_
      rotate_left
      · intro w hSw; (try dsimp only at hSw); go_simp; (try with_reducible rfl)
      (try simp only [Act.put, uS13, xA, xB, xC])
      refine tkE 14 uS14 rfl (by kernel_rfl) (fun K hK => ?_)
      go_simp
      (refine (CCt.out _ _ (RS.out _ (G3_4.out.trans (by first | assumption | exact Kp.drew _)))).mono ?_; rintro e w' ⟨rfl, k1⟩; have k2 := Kp.trans (show Kp w4 _ from (by first | assumption | exact Kp.drew _)) k1; clear k1)
      (try go_wp2_with fail)
      refine hK.out _ _ ?_ (fun hHeld3 => ?_)
      · (try dsimp only); exact KS.out _ (by first | assumption | exact Kp.drew _)
      clear hK K hHeld2
      (try simp only [Act.put, uS14, xA, xB, xC])
      refine tkV (v := ?_) 15 uS15 ?_ ?_
      rotate_left
      · intro w hSw; (try dsimp only at hSw); go_simp; (try with_reducible rfl)
      (try simp only [Act.put, uS15, xA, xB, xC])
      refine tkV (v := ?_) 16 uS16 ?_ ?_
      rotate_left
      · intro w hSw; (try dsimp only at hSw); go_simp; (try with_reducible rfl)
      (try simp only [Act.put, uS16, xA, xB, xC])
      refine tkN 17 uS17 ?_
      (try simp only [Act.put, uS17, xA, xB, xC])
      refine tkN 18 uS18 ?_
      (try simp only [Act.put, uS18, xA, xB, xC])
      refine tkN 19 uS19 ?_
      (try simp only [Act.put, uS19, xA, xB, xC])
      refine tkN 20 uS20 ?_
      (try simp only [Act.put, uS20, xA, xB, xC])
      refine tkN 21 uS21 ?_
      (try simp only [Act.put, uS21, xA, xB, xC])
      refine tkN 22 uS22 ?_
      (try simp only [Act.put, uS22, xA, xB, xC])
      refine tkN 23 uS23 ?_
      (try simp only [Act.put, uS23, xA, xB, xC])
      refine tkN 24 uS24 ?_
      (try simp only [Act.put, uS24, xA, xB, xC])
      refine tkN 25 uS25 ?_
      (try simp only [Act.put, uS25, xA, xB, xC])
      refine tkN 26 uS26 ?_
      (try simp only [Act.put, uS26, xA, xB, xC])
      refine tkN 27 uS27 ?_
      (try simp only [Act.put, uS27, xA, xB, xC])
      refine tkN 28 uS28 ?_
      (try simp only [Act.put, uS28, xA, xB, xC])
      refine tkN 29 uS29 ?_
      (try simp only [Act.put, uS29, xA, xB, xC])
      refine tkN 30 uS30 ?_
      (try simp only [Act.put, uS30, xA, xB, xC])
      refine tkN 31 uS31 ?_
      (try simp only [Act.put, uS31, xA, xB, xC])
      refine tkN 32 uS32 ?_
      (try simp only [Act.put, uS32, xA, xB, xC])
      refine tkN 33 uS33 ?_
      (try simp only [Act.put, uS33, xA, xB, xC])
      refine tkN 34 uS34 ?_
      (try simp only [Act.put, uS34, xA, xB, xC])
      refine tkV (v := ?_) 35 uS35 ?_ ?_
      rotate_left
      · intro w hSw; (try dsimp only at hSw); go_simp; (try with_reducible rfl)
      (try simp only [Act.put, uS35, xA, xB, xC])
      refine tkV (v := ?_) 36 uS36 ?_ ?_
      rotate_left
      · intro w hSw; (try dsimp only at hSw); go_simp; (try with_reducible rfl)
      (try simp only [Act.put, uS36, xA, xB, xC])
      refine tkV (v := ?_) 37 uS37 ?_ ?_
      rotate_left
      · intro w hSw; (try dsimp only at hSw); go_simp; (try with_reducible rfl)
      (try simp only [Act.put, uS37, xA, xB, xC])
      refine wpAnyH_done (by kernel_rfl) ?_ _
      go_wp2
      go_ret
      exact ⟨rfl, K00.out.trans (K4.out.trans k2)⟩
    | true =>
      simp only [Bool.true_and] at CHH
      go_enter Tryd.func4, Tryd.ntmps4
      go_wp2_with fail
      rw [← HW.out]
      refine (AW.out _ (K00.out.trans (by first | with_reducible exact K0.out | with_reducible exact K0.out.trans (Kp.alloc _ _) | with_reducible exact (K0.out.trans (Kp.alloc _ _)).trans (Kp.alloc _ _) | with_reducible exact ((K0.out.trans (Kp.alloc _ _)).trans (Kp.alloc _ _)).trans (Kp.alloc _ _) | with_reducible exact K0.out.trans (Kp.drew _) | with_reducible exact K0.out.trans (Kp.drewN _ _)))).mono ?_
      rintro e w1 ⟨rfl, kk⟩
      have K1 := Lib.hid ((show Kp W0 _ from (by first | with_reducible exact K0.out | with_reducible exact K0.out.trans (Kp.alloc _ _) | with_reducible exact (K0.out.trans (Kp.alloc _ _)).trans (Kp.alloc _ _) | with_reducible exact ((K0.out.trans (Kp.alloc _ _)).trans (Kp.alloc _ _)).trans (Kp.alloc _ _) | with_reducible exact K0.out.trans (Kp.drew _) | with_reducible exact K0.out.trans (Kp.drewN _ _))).trans kk)
      clear kk
      clear c0 c1 c2 c3
      obtain ⟨c0, c1, c2, c3⟩ := HB.out w1 K1.out
      go_wp2_with fail
      refine (SH.out _ (K00.out.trans (by first | with_reducible exact K1.out | with_reducible exact K1.out.trans (Kp.alloc _ _) | with_reducible exact (K1.out.trans (Kp.alloc _ _)).trans (Kp.alloc _ _) | with_reducible exact ((K1.out.trans (Kp.alloc _ _)).trans (Kp.alloc _ _)).trans (Kp.alloc _ _) | with_reducible exact K1.out.trans (Kp.drew _) | with_reducible exact K1.out.trans (Kp.drewN _ _)))).mono ?_
      rintro e w2 ⟨rfl, kk⟩
      have K2 := Lib.hid ((show Kp W0 _ from (by first | with_reducible exact K1.out | with_reducible exact K1.out.trans (Kp.alloc _ _) | with_reducible exact (K1.out.trans (Kp.alloc _ _)).trans (Kp.alloc _ _) | with_reducible exact ((K1.out.trans (Kp.alloc _ _)).trans (Kp.alloc _ _)).trans (Kp.alloc _ _) | with_reducible exact K1.out.trans (Kp.drew _) | with_reducible exact K1.out.trans (Kp.drewN _ _))).trans kk)
      clear kk
      clear c0 c1 c2 c3
      obtain ⟨c0, c1, c2, c3⟩ := HB.out w2 K2.out
      go_wp2_with fail
      refine (STH.out _ (K00.out.trans (by first | with_reducible exact K2.out | with_reducible exact K2.out.trans (Kp.alloc _ _) | with_reducible exact (K2.out.trans (Kp.alloc _ _)).trans (Kp.alloc _ _) | with_reducible exact ((K2.out.trans (Kp.alloc _ _)).trans (Kp.alloc _ _)).trans (Kp.alloc _ _) | with_reducible exact K2.out.trans (Kp.drew _) | with_reducible exact K2.out.trans (Kp.drewN _ _)))).mono ?_
      rintro e w3 ⟨v3, rfl, own3, kk⟩
      have K3 := Lib.hid ((show Kp W0 _ from (by first | with_reducible exact K2.out | with_reducible exact K2.out.trans (Kp.alloc _ _) | with_reducible exact (K2.out.trans (Kp.alloc _ _)).trans (Kp.alloc _ _) | with_reducible exact ((K2.out.trans (Kp.alloc _ _)).trans (Kp.alloc _ _)).trans (Kp.alloc _ _) | with_reducible exact K2.out.trans (Kp.drew _) | with_reducible exact K2.out.trans (Kp.drewN _ _))).trans kk)
      have RS := Lib.hid (fun w1 (q : Kp w3 w1) => (runsAt_own own3).kp q)
      obtain ⟨aS, cS, rfl⟩ := own_slice own3
      clear own3
      clear kk
      clear c0 c1 c2 c3
      obtain ⟨c0, c1, c2, c3⟩ := HB.out w3 K3.out
      have G3_3 := Lib.hid (Kp.refl w3)
      go_wp2_with fail
      refine (M1.out _).mono ?_
      rintro e w4 ⟨rfl, kk⟩
      have K4 := Lib.hid ((show Kp W0 _ from (by first | with_reducible exact K3.out | with_reducible exact K3.out.trans (Kp.alloc _ _) | with_reducible exact (K3.out.trans (Kp.alloc _ _)).trans (Kp.alloc _ _) | with_reducible exact ((K3.out.trans (Kp.alloc _ _)).trans (Kp.alloc _ _)).trans (Kp.alloc _ _) | with_reducible exact K3.out.trans (Kp.drew _) | with_reducible exact K3.out.trans (Kp.drewN _ _))).trans kk)
      have G3_4 := Lib.hid (G3_3.out.trans ((show Kp w3 _ from (by first | with_reducible exact Kp.refl _ | with_reducible exact Kp.alloc _ _ | with_reducible exact (Kp.alloc _ _).trans (Kp.alloc _ _) | with_reducible exact ((Kp.alloc _ _).trans (Kp.alloc _ _)).trans (Kp.alloc _ _) | with_reducible exact Kp.drew _ | with_reducible exact Kp.drewN _ _)).trans kk))
      clear kk
      clear c0 c1 c2 c3
      obtain ⟨c0, c1, c2, c3⟩ := HB.out w4 K4.out
      go_wp2_with fail
      refine (M2.out _).mono ?_
      rintro e w5 ⟨rfl, kk⟩
      have K5 := Lib.hid ((show Kp W0 _ from (by first | with_reducible exact K4.out | with_reducible exact K4.out.trans (Kp.alloc _ _) | with_reducible exact (K4.out.trans (Kp.alloc _ _)).trans (Kp.alloc _ _) | with_reducible exact ((K4.out.trans (Kp.alloc _ _)).trans (Kp.alloc _ _)).trans (Kp.alloc _ _) | with_reducible exact K4.out.trans (Kp.drew _) | with_reducible exact K4.out.trans (Kp.drewN _ _))).trans kk)
      have G3_5 := Lib.hid (G3_4.out.trans ((show Kp w4 _ from (by first | with_reducible exact Kp.refl _ | with_reducible exact Kp.alloc _ _ | with_reducible exact (Kp.alloc _ _).trans (Kp.alloc _ _) | with_reducible exact ((Kp.alloc _ _).trans (Kp.alloc _ _)).trans (Kp.alloc _ _) | with_reducible exact Kp.drew _ | with_reducible exact Kp.drewN _ _)).trans kk))
      clear kk
      clear c0 c1 c2 c3
      obtain ⟨c0, c1, c2, c3⟩ := HB.out w5 K5.out
      have KS := Lib.hid (fun w' (kq : Kp w5 w') => show w'.cell? ⟨w.heap.size, 0, none⟩ = some (.int .i64 2) ∧ w'.cell? ⟨w.heap.size, 1, none⟩ = some (.string yp) ∧ w'.cell? ⟨w.heap.size, 2, none⟩ = some (.string mp) ∧ w'.cell? ⟨w.heap.size, 3, none⟩ = some (.string dp) ∧ Kp w5 w' from ⟨(HB.out w' (K5.out.trans kq)).1, (HB.out w' (K5.out.trans kq)).2.1, (HB.out w' (K5.out.trans kq)).2.2.1, (HB.out w' (K5.out.trans kq)).2.2.2, kq⟩)
      go_wp2_with fail
      refine wp_region_held_drew (S := fun w' => w'.cell? ⟨w.heap.size, 0, none⟩ = some (.int .i64 2) ∧ w'.cell? ⟨w.heap.size, 1, none⟩ = some (.string yp) ∧ w'.cell? ⟨w.heap.size, 2, none⟩ = some (.string mp) ∧ w'.cell? ⟨w.heap.size, 3, none⟩ = some (.string dp) ∧ Kp w5 w') (by kernel_rfl) ?_ (fun hHeld0 => ?_)
      · (try dsimp only); exact KS.out _ (by first | assumption | exact Kp.drew _)
      refine tkV (v := ?_) 0 uS0 ?_ ?_
      rotate_left
      · intro w hSw; (try dsimp only at hSw); go_simp; (try with_reducible rfl)
      (try simp only [Act.put, uS0, xA, xB, xC])
      refine tkV (v := ?_) 1 uS1 ?_ ?_
      rotate_left
      · intro w hSw; (try dsimp only at hSw); go_simp; (try with_reducible rfl)
      (try simp only [Act.put, uS1, xA, xB, xC])
      refine tkV (v := ?_) 2 uS2 ?_ ?_
      rotate_left
      · intro w hSw; (try dsimp only at hSw); go_simp; (try with_reducible rfl)
      (try simp only [Act.put, uS2, xA, xB, xC])
      refine tkE 3 uS3 rfl (by kernel_rfl) (fun K hK => ?_)
      go_simp
      (refine (CSn.out _ _ (RS.out _ (G3_5.out.trans (by first | assumption | exact Kp.drew _)))).mono ?_; rintro e w' ⟨rfl, k1⟩; have k2 := Kp.trans (show Kp w5 _ from (by first | assumption | exact Kp.drew _)) k1; clear k1)
      (try go_wp2_with fail)
      refine hK.out _ _ ?_ (fun hHeld1 => ?_)
      · (try dsimp only); exact KS.out _ (by first | assumption | exact Kp.drew _)
      clear hK K hHeld0
      (try simp only [Act.put, uS3, xA, xB, xC])
      refine tkV (v := ?_) 4 uS4 ?_ ?_
      rotate_left
      · intro w hSw; (try dsimp only at hSw); go_simp; (try with_reducible rfl)
      (try simp only [Act.put, uS4, xA, xB, xC])
      refine tkV (v := ?_) 5 uS5 ?_ ?_
      rotate_left
      · intro w hSw; (try dsimp only at hSw); go_simp; (try with_reducible rfl)
      (try simp only [Act.put, uS5, xA, xB, xC])
      refine tkV (v := ?_) 6 uS6 ?_ ?_
      rotate_left
      · intro w hSw; (try dsimp only at hSw); go_simp; (try with_reducible rfl)
      (try simp only [Act.put, uS6, xA, xB, xC])
      refine tkV (v := ?_) 7 uS7 ?_ ?_
      rotate_left
      · intro w hSw; (try dsimp only at hSw); go_simp; (try with_reducible rfl)
      (try simp only [Act.put, uS7, xA, xB, xC])
      refine tkV (v := ?_) 9 uS9 ?_ ?_
      rotate_left
      · intro w hSw; (try dsimp only at hSw); go_simp; (try with_reducible rfl)
      (try simp only [Act.put, uS9, xA, xB, xC])
      refine tkE 8 uS8 rfl (by kernel_rfl) (fun K hK => ?_)
      go_simp
      (refine (CHH.out _ _ _ (RS.out _ (G3_5.out.trans (by first | assumption | exact Kp.drew _)))).mono ?_; rintro e w' ⟨rfl, k1⟩; have k2 := Kp.trans (show Kp w5 _ from (by first | assumption | exact Kp.drew _)) k1; clear k1)
      (try go_wp2_with fail)
      refine hK.out _ _ ?_ (fun hHeld2 => ?_)
      · (try dsimp only); exact KS.out _ (by first | assumption | exact Kp.drew _)
      clear hK K hHeld1
      (try simp only [Act.put, uS8, xA, xB, xC])
      refine tkV (v := ?_) 10 uS10 ?_ ?_
      rotate_left
      · intro w hSw; (try dsimp only at hSw); go_simp; (try with_reducible rfl)
      (try simp only [Act.put, uS10, xA, xB, xC])
      refine tkV (v := ?_) 11 uS11 ?_ ?_
      rotate_left
      · intro w hSw; (try dsimp only at hSw); go_simp; (try with_reducible rfl)
      (try simp only [Act.put, uS11, xA, xB, xC])
      refine tkV (v := ?_) 12 uS12 ?_ ?_
      rotate_left
      · intro w hSw; (try dsimp only at hSw); go_simp; (try with_reducible rfl)
      (try simp only [Act.put, uS12, xA, xB, xC])
      refine tkV (v := ?_) 13 uS13 ?_ ?_
      rotate_left
      · intro w hSw; (try dsimp only at hSw); go_simp; (try with_reducible rfl)
      (try simp only [Act.put, uS13, xA, xB, xC])
      refine tkE 14 uS14 rfl (by kernel_rfl) (fun K hK => ?_)
      go_simp
      (refine (CCt.out _ _ (RS.out _ (G3_5.out.trans (by first | assumption | exact Kp.drew _)))).mono ?_; rintro e w' ⟨rfl, k1⟩; have k2 := Kp.trans (show Kp w5 _ from (by first | assumption | exact Kp.drew _)) k1; clear k1)
      (try go_wp2_with fail)
      refine hK.out _ _ ?_ (fun hHeld3 => ?_)
      · (try dsimp only); exact KS.out _ (by first | assumption | exact Kp.drew _)
      clear hK K hHeld2
      (try simp only [Act.put, uS14, xA, xB, xC])
      refine tkV (v := ?_) 15 uS15 ?_ ?_
      rotate_left
      · intro w hSw; (try dsimp only at hSw); go_simp; (try with_reducible rfl)
      (try simp only [Act.put, uS15, xA, xB, xC])
      refine tkV (v := ?_) 16 uS16 ?_ ?_
      rotate_left
      · intro w hSw; (try dsimp only at hSw); go_simp; (try with_reducible rfl)
      (try simp only [Act.put, uS16, xA, xB, xC])
      refine tkN 17 uS17 ?_
      (try simp only [Act.put, uS17, xA, xB, xC])
      refine tkN 18 uS18 ?_
      (try simp only [Act.put, uS18, xA, xB, xC])
      refine tkN 19 uS19 ?_
      (try simp only [Act.put, uS19, xA, xB, xC])
      refine tkN 20 uS20 ?_
      (try simp only [Act.put, uS20, xA, xB, xC])
      refine tkN 21 uS21 ?_
      (try simp only [Act.put, uS21, xA, xB, xC])
      refine tkN 22 uS22 ?_
      (try simp only [Act.put, uS22, xA, xB, xC])
      refine tkN 23 uS23 ?_
      (try simp only [Act.put, uS23, xA, xB, xC])
      refine tkN 24 uS24 ?_
      (try simp only [Act.put, uS24, xA, xB, xC])
      refine tkN 25 uS25 ?_
      (try simp only [Act.put, uS25, xA, xB, xC])
      refine tkN 26 uS26 ?_
      (try simp only [Act.put, uS26, xA, xB, xC])
      refine tkN 27 uS27 ?_
      (try simp only [Act.put, uS27, xA, xB, xC])
      refine tkN 28 uS28 ?_
      (try simp only [Act.put, uS28, xA, xB, xC])
      refine tkN 29 uS29 ?_
      (try simp only [Act.put, uS29, xA, xB, xC])
      refine tkN 30 uS30 ?_
      (try simp only [Act.put, uS30, xA, xB, xC])
      refine tkN 31 uS31 ?_
      (try simp only [Act.put, uS31, xA, xB, xC])
      refine tkN 32 uS32 ?_
      (try simp only [Act.put, uS32, xA, xB, xC])
      refine tkN 33 uS33 ?_
      (try simp only [Act.put, uS33, xA, xB, xC])
      refine tkN 34 uS34 ?_
      (try simp only [Act.put, uS34, xA, xB, xC])
      refine tkV (v := ?_) 35 uS35 ?_ ?_
      rotate_left
      · intro w hSw; (try dsimp only at hSw); go_simp; (try with_reducible rfl)
      (try simp only [Act.put, uS35, xA, xB, xC])
      refine tkV (v := ?_) 36 uS36 ?_ ?_
      rotate_left
      · intro w hSw; (try dsimp only at hSw); go_simp; (try with_reducible rfl)
      (try simp only [Act.put, uS36, xA, xB, xC])
      refine tkV (v := ?_) 37 uS37 ?_ ?_
      rotate_left
      · intro w hSw; (try dsimp only at hSw); go_simp; (try with_reducible rfl)
      (try simp only [Act.put, uS37, xA, xB, xC])
      refine wpAnyH_done (by kernel_rfl) ?_ _
      go_wp2
      go_ret
      exact ⟨rfl, K00.out.trans (K5.out.trans k2)⟩
set_option maxHeartbeats 16000000 in
set_option maxRecDepth 100000 in
theorem units_2n (p : PT) (i : Int) (w : World) (hp1 : -9223372036854775808 ≤ p.k) (hp2 : p.k ≤ 9223372036854775807) (hi1 : -9223372036854775808 ≤ i) (hi2 : i ≤ 9223372036854775807) (T : Tabs8 w) (hs : shortP p = true) (he : setE p = 0) (hS : saneP p = true) (hN : numB p = true) (hR : setS p = numR p) (hk : p.k = 2) (hne : numR p ≠ []) :
    Calls Tryd.prog 4 #[ptV p, .int .i64 i] w fun e w' => e = .returned (.bool true) ∧ Kp w w' := by
  have AW := Lib.hid (fun w1 (kk : Kp w w1) => awake08 w1 (T.kp kk))
  have SH := Lib.hid (fun w1 (kk : Kp w w1) => short_any p w1)
  rw [hs] at SH
  have ST := fun w1 (kk : Kp w w1) => pset_any p w1 (T.kp kk)
  rw [he, hR] at ST
  have STH := Lib.hid ST
  have HU := numR_has hS hN i
  have IN := numR_inn hS hN
  have LN := numR_len p
  have SS := numR_sane p
  have CUc := Lib.hid (fun w1 (kk : Kp w w1) => countC p.k w1 (T.kp kk).1)
  have ck := cnt_bd p.k
  unfold inU at HU
  rw [if_neg (by rw [hk]; decide), if_neg (by rw [hk]; decide), if_pos hk] at HU
  obtain ⟨n, hn, hlo, hhi⟩ := ends_of hne IN
  have hz := sumR_pos (l := nf (numR p)) (by rw [nf_of_sane SS]; exact fun r hr => (IN r hr).2.1) (by rw [nf_of_sane SS]; exact hne)
  have CSn := Lib.hid (fun v w1 (h : RunsAt w1 v (numR p)) => sane_yes v (numR p) w1 h SS)
  have CHs := fun ad c w1 (h : RunsAt w1 (.slice ad (numR p).length c) (numR p)) => has_any ad c (numR p) i w1 h (sane_i64 SS) (by omega) hi1 hi2
  have CCt := Lib.hid (fun v w1 (h : RunsAt w1 v (numR p)) => scount_any v (numR p) w1 h (sane_i64 SS) (by omega))
  rw [HU] at CHs
  have CHH := Lib.hid CHs
  have M1 := Lib.hid (fun w1 => mmatch_any p.y (i / 4) w1 (by omega) (by omega))
  have M2 := Lib.hid (fun w1 => mmatch_any p.m (i % 4 + 1) w1 (by omega) (by omega))
  generalize sumR (nf (numR p)) = cs at *
  generalize numR p = S at *
  generalize matchM p.y (i / 4) = b1 at *
  generalize matchM p.m (i % 4 + 1) = b2 at *
  obtain ⟨b0, hb0⟩ : ∃ b, decide (0 ≤ i) = b := ⟨_, rfl⟩
  rw [hb0] at CHH
  have HN := Lib.hid hn
  have hn1 : IntKind.i64.wrap ((S.length : Int) - 1) = (n : Int) := by rw [IntKind.wrap_i64]; omega
  have z1 : (n : Int) < (S.length : Int) := by omega
  have z0 : (0 : Int) < (S.length : Int) := by omega
  have z0n : 0 < S.length := by omega
  have z1n : n < S.length := by omega
  have zc : (cs == 0) = false := by rw [beq_eq_false_iff_ne]; omega
  obtain ⟨lo, hlo'⟩ : ∃ x, (at_ S 0).1 = x := ⟨_, rfl⟩
  obtain ⟨hi', hhi'⟩ : ∃ x, (at_ S n).2 = x := ⟨_, rfl⟩
  have HLO := Lib.hid hlo'
  have HHI := Lib.hid hhi'
  rw [hlo'] at hlo
  rw [hhi'] at hhi
  generalize cnt p.k = cu at *
  have g1 : decide (0 ≤ lo) = true := decide_eq_true hlo
  have g2 : decide (hi' < cu) = true := decide_eq_true (by omega)
  have g3 : decide (lo ≥ 0) = true := decide_eq_true hlo
  clear hn hlo' hhi' hne hz
  clear hs he hS hN hR T ST HU CHs SS LN IN ck
  obtain ⟨kp, yp, mp, dp⟩ := p
  unfold ptV at *
  simp only at *
  obtain ⟨W0, hW⟩ : ∃ W0, W0 = w.alloc (.cells #[.int .i64 kp, .string yp, .string mp, .string dp] 23) := ⟨_, rfl⟩
  have K00 := Lib.hid (show Kp w W0 by rw [hW]; exact Kp.alloc _ _)
  have HB := Lib.hid (fun w1 (k : Kp W0 w1) => show w1.cell? ⟨w.heap.size, 0, none⟩ = some (.int .i64 kp) ∧ w1.cell? ⟨w.heap.size, 1, none⟩ = some (.string yp) ∧ w1.cell? ⟨w.heap.size, 2, none⟩ = some (.string mp) ∧ w1.cell? ⟨w.heap.size, 3, none⟩ = some (.string dp) from ⟨cell_up k (show W0.cell? ⟨w.heap.size, 0, none⟩ = some (.int .i64 kp) by rw [hW]; simp), cell_up k (show W0.cell? ⟨w.heap.size, 1, none⟩ = some (.string yp) by rw [hW]; simp), cell_up k (show W0.cell? ⟨w.heap.size, 2, none⟩ = some (.string mp) by rw [hW]; simp), cell_up k (show W0.cell? ⟨w.heap.size, 3, none⟩ = some (.string dp) by rw [hW]; simp)⟩)
  obtain ⟨c0, c1, c2, c3⟩ := HB.out W0 (Kp.refl _)
  have K0 := Lib.hid (Kp.refl W0)
  have HW := Lib.hid hW
  clear hW
  (try simp only at *)
  subst hk
  cases b0 with
  | false =>
    have gm : decide (0 ≤ i) = false := hb0
    simp only [Bool.false_and] at CHH
    clear hb0
    go_enter Tryd.func4, Tryd.ntmps4
    go_wp2_with fail
    rw [← HW.out]
    refine (AW.out _ (K00.out.trans (by first | with_reducible exact K0.out | with_reducible exact K0.out.trans (Kp.alloc _ _) | with_reducible exact (K0.out.trans (Kp.alloc _ _)).trans (Kp.alloc _ _) | with_reducible exact ((K0.out.trans (Kp.alloc _ _)).trans (Kp.alloc _ _)).trans (Kp.alloc _ _) | with_reducible exact K0.out.trans (Kp.drew _) | with_reducible exact K0.out.trans (Kp.drewN _ _)))).mono ?_
    rintro e w1 ⟨rfl, kk⟩
    have K1 := Lib.hid ((show Kp W0 _ from (by first | with_reducible exact K0.out | with_reducible exact K0.out.trans (Kp.alloc _ _) | with_reducible exact (K0.out.trans (Kp.alloc _ _)).trans (Kp.alloc _ _) | with_reducible exact ((K0.out.trans (Kp.alloc _ _)).trans (Kp.alloc _ _)).trans (Kp.alloc _ _) | with_reducible exact K0.out.trans (Kp.drew _) | with_reducible exact K0.out.trans (Kp.drewN _ _))).trans kk)
    clear kk
    clear c0 c1 c2 c3
    obtain ⟨c0, c1, c2, c3⟩ := HB.out w1 K1.out
    go_wp2_with fail
    refine (SH.out _ (K00.out.trans (by first | with_reducible exact K1.out | with_reducible exact K1.out.trans (Kp.alloc _ _) | with_reducible exact (K1.out.trans (Kp.alloc _ _)).trans (Kp.alloc _ _) | with_reducible exact ((K1.out.trans (Kp.alloc _ _)).trans (Kp.alloc _ _)).trans (Kp.alloc _ _) | with_reducible exact K1.out.trans (Kp.drew _) | with_reducible exact K1.out.trans (Kp.drewN _ _)))).mono ?_
    rintro e w2 ⟨rfl, kk⟩
    have K2 := Lib.hid ((show Kp W0 _ from (by first | with_reducible exact K1.out | with_reducible exact K1.out.trans (Kp.alloc _ _) | with_reducible exact (K1.out.trans (Kp.alloc _ _)).trans (Kp.alloc _ _) | with_reducible exact ((K1.out.trans (Kp.alloc _ _)).trans (Kp.alloc _ _)).trans (Kp.alloc _ _) | with_reducible exact K1.out.trans (Kp.drew _) | with_reducible exact K1.out.trans (Kp.drewN _ _))).trans kk)
    clear kk
    clear c0 c1 c2 c3
    obtain ⟨c0, c1, c2, c3⟩ := HB.out w2 K2.out
    go_wp2_with fail
    refine (STH.out _ (K00.out.trans (by first | with_reducible exact K2.out | with_reducible exact K2.out.trans (Kp.alloc _ _) | with_reducible exact (K2.out.trans (Kp.alloc _ _)).trans (Kp.alloc _ _) | with_reducible exact ((K2.out.trans (Kp.alloc _ _)).trans (Kp.alloc _ _)).trans (Kp.alloc _ _) | with_reducible exact K2.out.trans (Kp.drew _) | with_reducible exact K2.out.trans (Kp.drewN _ _)))).mono ?_
    rintro e w3 ⟨v3, rfl, own3, kk⟩
    have K3 := Lib.hid ((show Kp W0 _ from (by first | with_reducible exact K2.out | with_reducible exact K2.out.trans (Kp.alloc _ _) | with_reducible exact (K2.out.trans (Kp.alloc _ _)).trans (Kp.alloc _ _) | with_reducible exact ((K2.out.trans (Kp.alloc _ _)).trans (Kp.alloc _ _)).trans (Kp.alloc _ _) | with_reducible exact K2.out.trans (Kp.drew _) | with_reducible exact K2.out.trans (Kp.drewN _ _))).trans kk)
    have RS := Lib.hid (fun w1 (q : Kp w3 w1) => (runsAt_own own3).kp q)
    obtain ⟨aS, cS, rfl⟩ := own_slice own3
    clear own3
    clear kk
    clear c0 c1 c2 c3
    obtain ⟨c0, c1, c2, c3⟩ := HB.out w3 K3.out
    have G3_3 := Lib.hid (Kp.refl w3)
    rcases RS.out _ G3_3.out with ⟨_, _, _, e⟩ | ⟨bS, oS, capS, evS, hcS, hmS, hxS⟩
    · exfalso; have := HN.out; rw [e] at this; simp at this
    cases evS
    have e1 := (hxS 0 (by have := HN.out; omega)).1
    have e2 := (hxS n (by have := HN.out; omega)).2
    rw [Nat.zero_mul, Nat.add_zero, HLO.out] at e1
    rw [HHI.out] at e2
    clear hxS hcS hmS
    have KS := Lib.hid (fun w' (kq : Kp w3 w') => show w'.cell? ⟨w.heap.size, 0, none⟩ = some (.int .i64 2) ∧ w'.cell? ⟨w.heap.size, 1, none⟩ = some (.string yp) ∧ w'.cell? ⟨w.heap.size, 2, none⟩ = some (.string mp) ∧ w'.cell? ⟨w.heap.size, 3, none⟩ = some (.string dp) ∧ w'.cell? ⟨bS, oS, none⟩ = some (.int .i64 lo) ∧ w'.cell? ⟨bS, oS + n * 2 + 1, none⟩ = some (.int .i64 hi') ∧ Kp w3 w' from ⟨(HB.out w' (K3.out.trans kq)).1, (HB.out w' (K3.out.trans kq)).2.1, (HB.out w' (K3.out.trans kq)).2.2.1, (HB.out w' (K3.out.trans kq)).2.2.2, cell_up kq e1, cell_up kq e2, kq⟩)
    go_wp2_with fail
    refine wp_region_held_drew (S := fun w' => w'.cell? ⟨w.heap.size, 0, none⟩ = some (.int .i64 2) ∧ w'.cell? ⟨w.heap.size, 1, none⟩ = some (.string yp) ∧ w'.cell? ⟨w.heap.size, 2, none⟩ = some (.string mp) ∧ w'.cell? ⟨w.heap.size, 3, none⟩ = some (.string dp) ∧ w'.cell? ⟨bS, oS, none⟩ = some (.int .i64 lo) ∧ w'.cell? ⟨bS, oS + n * 2 + 1, none⟩ = some (.int .i64 hi') ∧ Kp w3 w') (by kernel_rfl) ?_ (fun hHeld0 => ?_)
    · (try dsimp only); exact KS.out _ (by first | assumption | exact Kp.drew _)
    refine tkV (v := ?_) 0 uS0 ?_ ?_
    rotate_left
    · intro w hSw; (try dsimp only at hSw); go_simp; (try with_reducible rfl)
    (try simp only [Act.put, uS0, xA, xB, xC])
    refine tkV (v := ?_) 1 uS1 ?_ ?_
    rotate_left
    · intro w hSw; (try dsimp only at hSw); go_simp; (try with_reducible rfl)
    (try simp only [Act.put, uS1, xA, xB, xC])
    refine tkV (v := ?_) 2 uS2 ?_ ?_
    rotate_left
    · intro w hSw; (try dsimp only at hSw); go_simp; (try with_reducible rfl)
    (try simp only [Act.put, uS2, xA, xB, xC])
    refine tkE 3 uS3 rfl (by kernel_rfl) (fun K hK => ?_)
    go_simp
    (refine (CSn.out _ _ (RS.out _ (G3_3.out.trans (by first | assumption | exact Kp.drew _)))).mono ?_; rintro e w' ⟨rfl, k1⟩; have k2 := Kp.trans (show Kp w3 _ from (by first | assumption | exact Kp.drew _)) k1; clear k1)
    (try go_wp2_with fail)
    refine hK.out _ _ ?_ (fun hHeld1 => ?_)
    · (try dsimp only); exact KS.out _ (by first | assumption | exact Kp.drew _)
    clear hK K hHeld0
    (try simp only [Act.put, uS3, xA, xB, xC])
    refine tkV (v := ?_) 4 uS4 ?_ ?_
    rotate_left
    · intro w hSw; (try dsimp only at hSw); go_simp; (try with_reducible rfl)
    (try simp only [Act.put, uS4, xA, xB, xC])
    refine tkV (v := ?_) 5 uS5 ?_ ?_
    rotate_left
    · intro w hSw; (try dsimp only at hSw); go_simp; (try with_reducible rfl)
    (try simp only [Act.put, uS5, xA, xB, xC])
    refine tkV (v := ?_) 6 uS6 ?_ ?_
    rotate_left
    · intro w hSw; (try dsimp only at hSw); go_simp; (try with_reducible rfl)
    (try simp only [Act.put, uS6, xA, xB, xC])
    refine tkV (v := ?_) 7 uS7 ?_ ?_
    rotate_left
    · intro w hSw; (try dsimp only at hSw); go_simp; (try with_reducible rfl)
    (try simp only [Act.put, uS7, xA, xB, xC])
    refine tkV (v := ?_) 9 uS9 ?_ ?_
    rotate_left
    · intro w hSw; (try dsimp only at hSw); go_simp; (try with_reducible rfl)
    (try simp only [Act.put, uS9, xA, xB, xC])
    refine tkE 8 uS8 rfl (by kernel_rfl) (fun K hK => ?_)
    go_simp
    (refine (CHH.out _ _ _ (RS.out _ (G3_3.out.trans (by first | assumption | exact Kp.drew _)))).mono ?_; rintro e w' ⟨rfl, k1⟩; have k2 := Kp.trans (show Kp w3 _ from (by first | assumption | exact Kp.drew _)) k1; clear k1)
    (try go_wp2_with fail)
    refine hK.out _ _ ?_ (fun hHeld2 => ?_)
    · (try dsimp only); exact KS.out _ (by first | assumption | exact Kp.drew _)
    clear hK K hHeld1
    (try simp only [Act.put, uS8, xA, xB, xC])
    refine tkV (v := ?_) 10 uS10 ?_ ?_
    rotate_left
    · intro w hSw; (try dsimp only at hSw); go_simp; (try with_reducible rfl)
    (try simp only [Act.put, uS10, xA, xB, xC])
    refine tkV (v := ?_) 11 uS11 ?_ ?_
    rotate_left
    · intro w hSw; (try dsimp only at hSw); go_simp; (try with_reducible rfl)
    (try simp only [Act.put, uS11, xA, xB, xC])
    refine tkV (v := ?_) 12 uS12 ?_ ?_
    rotate_left
    · intro w hSw; (try dsimp only at hSw); go_simp; (try with_reducible rfl)
    (try simp only [Act.put, uS12, xA, xB, xC])
    refine tkV (v := ?_) 13 uS13 ?_ ?_
    rotate_left
    · intro w hSw; (try dsimp only at hSw); go_simp; (try with_reducible rfl)
    (try simp only [Act.put, uS13, xA, xB, xC])
    refine tkE 14 uS14 rfl (by kernel_rfl) (fun K hK => ?_)
    go_simp
    (refine (CCt.out _ _ (RS.out _ (G3_3.out.trans (by first | assumption | exact Kp.drew _)))).mono ?_; rintro e w' ⟨rfl, k1⟩; have k2 := Kp.trans (show Kp w3 _ from (by first | assumption | exact Kp.drew _)) k1; clear k1)
    (try go_wp2_with fail)
    refine hK.out _ _ ?_ (fun hHeld3 => ?_)
    · (try dsimp only); exact KS.out _ (by first | assumption | exact Kp.drew _)
    clear hK K hHeld2
    (try simp only [Act.put, uS14, xA, xB, xC])
    refine tkV (v := ?_) 15 uS15 ?_ ?_
    rotate_left
    · intro w hSw; (try dsimp only at hSw); go_simp; (try with_reducible rfl)
    (try simp only [Act.put, uS15, xA, xB, xC])
    refine tkV (v := ?_) 16 uS16 ?_ ?_
    rotate_left
    · intro w hSw; (try dsimp only at hSw); go_simp; (try with_reducible rfl)
    (try simp only [Act.put, uS16, xA, xB, xC])
    refine tkV (v := ?_) 17 uS17 ?_ ?_
    rotate_left
    · intro w hSw; (try dsimp only at hSw); go_simp; (try with_reducible rfl)
    (try simp only [Act.put, uS17, xA, xB, xC])
    refine tkV (v := ?_) 18 uS18 ?_ ?_
    rotate_left
    · intro w hSw; (try dsimp only at hSw); go_simp; (try with_reducible rfl)
    (try simp only [Act.put, uS18, xA, xB, xC])
    refine tkV (v := ?_) 19 uS19 ?_ ?_
    rotate_left
    · intro w hSw; (try dsimp only at hSw); go_simp; (try with_reducible rfl)
    (try simp only [Act.put, uS19, xA, xB, xC])
    refine tkV (v := ?_) 20 uS20 ?_ ?_
    rotate_left
    · intro w hSw; (try dsimp only at hSw); go_simp; (try with_reducible rfl)
    (try simp only [Act.put, uS20, xA, xB, xC])
    refine tkV (v := ?_) 21 uS21 ?_ ?_
    rotate_left
    · intro w hSw; (try dsimp only at hSw); go_simp; (try with_reducible rfl)
    (try simp only [Act.put, uS21, xA, xB, xC])
    refine tkV (v := ?_) 22 uS22 ?_ ?_
    rotate_left
    · intro w hSw; (try dsimp only at hSw); go_simp; (try with_reducible rfl)
    (try simp only [Act.put, uS22, xA, xB, xC])
    refine tkV (v := ?_) 23 uS23 ?_ ?_
    rotate_left
    · intro w hSw; (try dsimp only at hSw); go_simp; (try with_reducible rfl)
    (try simp only [Act.put, uS23, xA, xB, xC])
    refine tkV (v := ?_) 24 uS24 ?_ ?_
    rotate_left
    · intro w hSw; (try dsimp only at hSw); go_simp; (try with_reducible rfl)
    (try simp only [Act.put, uS24, xA, xB, xC])
    refine tkV (v := ?_) 25 uS25 ?_ ?_
    rotate_left
    · intro w hSw; (try dsimp only at hSw); go_simp; (try with_reducible rfl)
    (try simp only [Act.put, uS25, xA, xB, xC])
    refine tkV (v := ?_) 26 uS26 ?_ ?_
    rotate_left
    · intro w hSw; (try dsimp only at hSw); go_simp; (try with_reducible rfl)
    (try simp only [Act.put, uS26, xA, xB, xC])
    refine tkV (v := ?_) 27 uS27 ?_ ?_
    rotate_left
    · intro w hSw; (try dsimp only at hSw); go_simp; (try with_reducible rfl)
    (try simp only [Act.put, uS27, xA, xB, xC])
    refine tkV (v := ?_) 28 uS28 ?_ ?_
    rotate_left
    · intro w hSw; (try dsimp only at hSw); go_simp; (try with_reducible rfl)
    (try simp only [Act.put, uS28, xA, xB, xC])
    refine tkV (v := ?_) 29 uS29 ?_ ?_
    rotate_left
    · intro w hSw; (try dsimp only at hSw); go_simp; (try with_reducible rfl)
    (try simp only [Act.put, uS29, xA, xB, xC])
    refine tkV (v := ?_) 30 uS30 ?_ ?_
    rotate_left
    · intro w hSw; (try dsimp only at hSw); go_simp; (try with_reducible rfl)
    (try simp only [Act.put, uS30, xA, xB, xC])
    refine tkV (v := ?_) 31 uS31 ?_ ?_
    rotate_left
    · intro w hSw; (try dsimp only at hSw); go_simp; (try with_reducible rfl)
    (try simp only [Act.put, uS31, xA, xB, xC])
    refine tkE 32 uS32 rfl (by kernel_rfl) (fun K hK => ?_)
    go_simp
    (refine (CUc.out _ (K00.out.trans (K3.out.trans (by first | assumption | exact Kp.drew _)))).mono ?_; rintro e w' ⟨rfl, k1⟩; have k2 := Kp.trans (show Kp w3 _ from (by first | assumption | exact Kp.drew _)) k1; clear k1)
    (try go_wp2_with fail)
    refine hK.out _ _ ?_ (fun hHeld4 => ?_)
    · (try dsimp only); exact KS.out _ (by first | assumption | exact Kp.drew _)
    clear hK K hHeld3
    (try simp only [Act.put, uS32, xA, xB, xC])
    refine tkV (v := ?_) 33 uS33 ?_ ?_
    rotate_left
    · intro w hSw; (try dsimp only at hSw); go_simp; (try with_reducible rfl)
    (try simp only [Act.put, uS33, xA, xB, xC])
    refine tkV (v := ?_) 34 uS34 ?_ ?_
    rotate_left
    · intro w hSw; (try dsimp only at hSw); go_simp; (try with_reducible rfl)
    (try simp only [Act.put, uS34, xA, xB, xC])
    refine tkV (v := ?_) 35 uS35 ?_ ?_
    rotate_left
    · intro w hSw; (try dsimp only at hSw); go_simp; (try with_reducible rfl)
    (try simp only [Act.put, uS35, xA, xB, xC])
    refine tkV (v := ?_) 36 uS36 ?_ ?_
    rotate_left
    · intro w hSw; (try dsimp only at hSw); go_simp; (try with_reducible rfl)
    (try simp only [Act.put, uS36, xA, xB, xC])
    refine tkV (v := ?_) 37 uS37 ?_ ?_
    rotate_left
    · intro w hSw; (try dsimp only at hSw); go_simp; (try with_reducible rfl)
    (try simp only [Act.put, uS37, xA, xB, xC])
    refine wpAnyH_done (by kernel_rfl) ?_ _
    go_wp2
    go_ret
    exact ⟨rfl, K00.out.trans (K3.out.trans k2)⟩
  | true =>
    have gm : decide (0 ≤ i) = true := hb0
    have hi0 := of_decide_eq_true hb0
    have t1 : Int.tdiv i 4 = i / 4 := Int.tdiv_eq_ediv_of_nonneg hi0
    have t2 : Int.tmod i 4 = i % 4 := Int.tmod_eq_emod_of_nonneg hi0
    simp only [Bool.true_and] at CHH
    clear hb0
    cases b1 with
    | false =>
      simp only [Bool.false_and] at CHH
      go_enter Tryd.func4, Tryd.ntmps4
      go_wp2_with fail
      rw [← HW.out]
      refine (AW.out _ (K00.out.trans (by first | with_reducible exact K0.out | with_reducible exact K0.out.trans (Kp.alloc _ _) | with_reducible exact (K0.out.trans (Kp.alloc _ _)).trans (Kp.alloc _ _) | with_reducible exact ((K0.out.trans (Kp.alloc _ _)).trans (Kp.alloc _ _)).trans (Kp.alloc _ _) | with_reducible exact K0.out.trans (Kp.drew _) | with_reducible exact K0.out.trans (Kp.drewN _ _)))).mono ?_
      rintro e w1 ⟨rfl, kk⟩
      have K1 := Lib.hid ((show Kp W0 _ from (by first | with_reducible exact K0.out | with_reducible exact K0.out.trans (Kp.alloc _ _) | with_reducible exact (K0.out.trans (Kp.alloc _ _)).trans (Kp.alloc _ _) | with_reducible exact ((K0.out.trans (Kp.alloc _ _)).trans (Kp.alloc _ _)).trans (Kp.alloc _ _) | with_reducible exact K0.out.trans (Kp.drew _) | with_reducible exact K0.out.trans (Kp.drewN _ _))).trans kk)
      clear kk
      clear c0 c1 c2 c3
      obtain ⟨c0, c1, c2, c3⟩ := HB.out w1 K1.out
      go_wp2_with fail
      refine (SH.out _ (K00.out.trans (by first | with_reducible exact K1.out | with_reducible exact K1.out.trans (Kp.alloc _ _) | with_reducible exact (K1.out.trans (Kp.alloc _ _)).trans (Kp.alloc _ _) | with_reducible exact ((K1.out.trans (Kp.alloc _ _)).trans (Kp.alloc _ _)).trans (Kp.alloc _ _) | with_reducible exact K1.out.trans (Kp.drew _) | with_reducible exact K1.out.trans (Kp.drewN _ _)))).mono ?_
      rintro e w2 ⟨rfl, kk⟩
      have K2 := Lib.hid ((show Kp W0 _ from (by first | with_reducible exact K1.out | with_reducible exact K1.out.trans (Kp.alloc _ _) | with_reducible exact (K1.out.trans (Kp.alloc _ _)).trans (Kp.alloc _ _) | with_reducible exact ((K1.out.trans (Kp.alloc _ _)).trans (Kp.alloc _ _)).trans (Kp.alloc _ _) | with_reducible exact K1.out.trans (Kp.drew _) | with_reducible exact K1.out.trans (Kp.drewN _ _))).trans kk)
      clear kk
      clear c0 c1 c2 c3
      obtain ⟨c0, c1, c2, c3⟩ := HB.out w2 K2.out
      go_wp2_with fail
      refine (STH.out _ (K00.out.trans (by first | with_reducible exact K2.out | with_reducible exact K2.out.trans (Kp.alloc _ _) | with_reducible exact (K2.out.trans (Kp.alloc _ _)).trans (Kp.alloc _ _) | with_reducible exact ((K2.out.trans (Kp.alloc _ _)).trans (Kp.alloc _ _)).trans (Kp.alloc _ _) | with_reducible exact K2.out.trans (Kp.drew _) | with_reducible exact K2.out.trans (Kp.drewN _ _)))).mono ?_
      rintro e w3 ⟨v3, rfl, own3, kk⟩
      have K3 := Lib.hid ((show Kp W0 _ from (by first | with_reducible exact K2.out | with_reducible exact K2.out.trans (Kp.alloc _ _) | with_reducible exact (K2.out.trans (Kp.alloc _ _)).trans (Kp.alloc _ _) | with_reducible exact ((K2.out.trans (Kp.alloc _ _)).trans (Kp.alloc _ _)).trans (Kp.alloc _ _) | with_reducible exact K2.out.trans (Kp.drew _) | with_reducible exact K2.out.trans (Kp.drewN _ _))).trans kk)
      have RS := Lib.hid (fun w1 (q : Kp w3 w1) => (runsAt_own own3).kp q)
      obtain ⟨aS, cS, rfl⟩ := own_slice own3
      clear own3
      clear kk
      clear c0 c1 c2 c3
      obtain ⟨c0, c1, c2, c3⟩ := HB.out w3 K3.out
      have G3_3 := Lib.hid (Kp.refl w3)
      go_wp2_with fail
      refine (M1.out _).mono ?_
      rintro e w4 ⟨rfl, kk⟩
      have K4 := Lib.hid ((show Kp W0 _ from (by first | with_reducible exact K3.out | with_reducible exact K3.out.trans (Kp.alloc _ _) | with_reducible exact (K3.out.trans (Kp.alloc _ _)).trans (Kp.alloc _ _) | with_reducible exact ((K3.out.trans (Kp.alloc _ _)).trans (Kp.alloc _ _)).trans (Kp.alloc _ _) | with_reducible exact K3.out.trans (Kp.drew _) | with_reducible exact K3.out.trans (Kp.drewN _ _))).trans kk)
      have G3_4 := Lib.hid (G3_3.out.trans ((show Kp w3 _ from (by first | with_reducible exact Kp.refl _ | with_reducible exact Kp.alloc _ _ | with_reducible exact (Kp.alloc _ _).trans (Kp.alloc _ _) | with_reducible exact ((Kp.alloc _ _).trans (Kp.alloc _ _)).trans (Kp.alloc _ _) | with_reducible exact Kp.drew _ | with_reducible exact Kp.drewN _ _)).trans kk))
      clear kk
      clear c0 c1 c2 c3
      obtain ⟨c0, c1, c2, c3⟩ := HB.out w4 K4.out
      rcases RS.out _ G3_4.out with ⟨_, _, _, e⟩ | ⟨bS, oS, capS, evS, hcS, hmS, hxS⟩
      · exfalso; have := HN.out; rw [e] at this; simp at this
      cases evS
      have e1 := (hxS 0 (by have := HN.out; omega)).1
      have e2 := (hxS n (by have := HN.out; omega)).2
      rw [Nat.zero_mul, Nat.add_zero, HLO.out] at e1
      rw [HHI.out] at e2
      clear hxS hcS hmS
      have KS := Lib.hid (fun w' (kq : Kp w4 w') => show w'.cell? ⟨w.heap.size, 0, none⟩ = some (.int .i64 2) ∧ w'.cell? ⟨w.heap.size, 1, none⟩ = some (.string yp) ∧ w'.cell? ⟨w.heap.size, 2, none⟩ = some (.string mp) ∧ w'.cell? ⟨w.heap.size, 3, none⟩ = some (.string dp) ∧ w'.cell? ⟨bS, oS, none⟩ = some (.int .i64 lo) ∧ w'.cell? ⟨bS, oS + n * 2 + 1, none⟩ = some (.int .i64 hi') ∧ Kp w4 w' from ⟨(HB.out w' (K4.out.trans kq)).1, (HB.out w' (K4.out.trans kq)).2.1, (HB.out w' (K4.out.trans kq)).2.2.1, (HB.out w' (K4.out.trans kq)).2.2.2, cell_up kq e1, cell_up kq e2, kq⟩)
      go_wp2_with fail
      refine wp_region_held_drew (S := fun w' => w'.cell? ⟨w.heap.size, 0, none⟩ = some (.int .i64 2) ∧ w'.cell? ⟨w.heap.size, 1, none⟩ = some (.string yp) ∧ w'.cell? ⟨w.heap.size, 2, none⟩ = some (.string mp) ∧ w'.cell? ⟨w.heap.size, 3, none⟩ = some (.string dp) ∧ w'.cell? ⟨bS, oS, none⟩ = some (.int .i64 lo) ∧ w'.cell? ⟨bS, oS + n * 2 + 1, none⟩ = some (.int .i64 hi') ∧ Kp w4 w') (by kernel_rfl) ?_ (fun hHeld0 => ?_)
      · (try dsimp only); exact KS.out _ (by first | assumption | exact Kp.drew _)
      refine tkV (v := ?_) 0 uS0 ?_ ?_
      rotate_left
      · intro w hSw; (try dsimp only at hSw); go_simp; (try with_reducible rfl)
      (try simp only [Act.put, uS0, xA, xB, xC])
      refine tkV (v := ?_) 1 uS1 ?_ ?_
      rotate_left
      · intro w hSw; (try dsimp only at hSw); go_simp; (try with_reducible rfl)
      (try simp only [Act.put, uS1, xA, xB, xC])
      refine tkV (v := ?_) 2 uS2 ?_ ?_
      rotate_left
      · intro w hSw; (try dsimp only at hSw); go_simp; (try with_reducible rfl)
      (try simp only [Act.put, uS2, xA, xB, xC])
      refine tkE 3 uS3 rfl (by kernel_rfl) (fun K hK => ?_)
      go_simp
      (refine (CSn.out _ _ (RS.out _ (G3_4.out.trans (by first | assumption | exact Kp.drew _)))).mono ?_; rintro e w' ⟨rfl, k1⟩; have k2 := Kp.trans (show Kp w4 _ from (by first | assumption | exact Kp.drew _)) k1; clear k1)
      (try go_wp2_with fail)
      refine hK.out _ _ ?_ (fun hHeld1 => ?_)
      · (try dsimp only); exact KS.out _ (by first | assumption | exact Kp.drew _)
      clear hK K hHeld0
      (try simp only [Act.put, uS3, xA, xB, xC])
      refine tkV (v := ?_) 4 uS4 ?_ ?_
      rotate_left
      · intro w hSw; (try dsimp only at hSw); go_simp; (try with_reducible rfl)
      (try simp only [Act.put, uS4, xA, xB, xC])
      refine tkV (v := ?_) 5 uS5 ?_ ?_
      rotate_left
      · intro w hSw; (try dsimp only at hSw); go_simp; (try with_reducible rfl)
      (try simp only [Act.put, uS5, xA, xB, xC])
      refine tkV (v := ?_) 6 uS6 ?_ ?_
      rotate_left
      · intro w hSw; (try dsimp only at hSw); go_simp; (try with_reducible rfl)
      (try simp only [Act.put, uS6, xA, xB, xC])
      refine tkV (v := ?_) 7 uS7 ?_ ?_
      rotate_left
      · intro w hSw; (try dsimp only at hSw); go_simp; (try with_reducible rfl)
      (try simp only [Act.put, uS7, xA, xB, xC])
      refine tkV (v := ?_) 9 uS9 ?_ ?_
      rotate_left
      · intro w hSw; (try dsimp only at hSw); go_simp; (try with_reducible rfl)
      (try simp only [Act.put, uS9, xA, xB, xC])
      refine tkE 8 uS8 rfl (by kernel_rfl) (fun K hK => ?_)
      go_simp
      (refine (CHH.out _ _ _ (RS.out _ (G3_4.out.trans (by first | assumption | exact Kp.drew _)))).mono ?_; rintro e w' ⟨rfl, k1⟩; have k2 := Kp.trans (show Kp w4 _ from (by first | assumption | exact Kp.drew _)) k1; clear k1)
      (try go_wp2_with fail)
      refine hK.out _ _ ?_ (fun hHeld2 => ?_)
      · (try dsimp only); exact KS.out _ (by first | assumption | exact Kp.drew _)
      clear hK K hHeld1
      (try simp only [Act.put, uS8, xA, xB, xC])
      refine tkV (v := ?_) 10 uS10 ?_ ?_
      rotate_left
      · intro w hSw; (try dsimp only at hSw); go_simp; (try with_reducible rfl)
      (try simp only [Act.put, uS10, xA, xB, xC])
      refine tkV (v := ?_) 11 uS11 ?_ ?_
      rotate_left
      · intro w hSw; (try dsimp only at hSw); go_simp; (try with_reducible rfl)
      (try simp only [Act.put, uS11, xA, xB, xC])
      refine tkV (v := ?_) 12 uS12 ?_ ?_
      rotate_left
      · intro w hSw; (try dsimp only at hSw); go_simp; (try with_reducible rfl)
      (try simp only [Act.put, uS12, xA, xB, xC])
      refine tkV (v := ?_) 13 uS13 ?_ ?_
      rotate_left
      · intro w hSw; (try dsimp only at hSw); go_simp; (try with_reducible rfl)
      (try simp only [Act.put, uS13, xA, xB, xC])
      refine tkE 14 uS14 rfl (by kernel_rfl) (fun K hK => ?_)
      go_simp
      (refine (CCt.out _ _ (RS.out _ (G3_4.out.trans (by first | assumption | exact Kp.drew _)))).mono ?_; rintro e w' ⟨rfl, k1⟩; have k2 := Kp.trans (show Kp w4 _ from (by first | assumption | exact Kp.drew _)) k1; clear k1)
      (try go_wp2_with fail)
      refine hK.out _ _ ?_ (fun hHeld3 => ?_)
      · (try dsimp only); exact KS.out _ (by first | assumption | exact Kp.drew _)
      clear hK K hHeld2
      (try simp only [Act.put, uS14, xA, xB, xC])
      refine tkV (v := ?_) 15 uS15 ?_ ?_
      rotate_left
      · intro w hSw; (try dsimp only at hSw); go_simp; (try with_reducible rfl)
      (try simp only [Act.put, uS15, xA, xB, xC])
      refine tkV (v := ?_) 16 uS16 ?_ ?_
      rotate_left
      · intro w hSw; (try dsimp only at hSw); go_simp; (try with_reducible rfl)
      (try simp only [Act.put, uS16, xA, xB, xC])
      refine tkV (v := ?_) 17 uS17 ?_ ?_
      rotate_left
      · intro w hSw; (try dsimp only at hSw); go_simp; (try with_reducible rfl)
      (try simp only [Act.put, uS17, xA, xB, xC])
      refine tkV (v := ?_) 18 uS18 ?_ ?_
      rotate_left
      · intro w hSw; (try dsimp only at hSw); go_simp; (try with_reducible rfl)
      (try simp only [Act.put, uS18, xA, xB, xC])
      refine tkV (v := ?_) 19 uS19 ?_ ?_
      rotate_left
      · intro w hSw; (try dsimp only at hSw); go_simp; (try with_reducible rfl)
      (try simp only [Act.put, uS19, xA, xB, xC])
      refine tkV (v := ?_) 20 uS20 ?_ ?_
      rotate_left
      · intro w hSw; (try dsimp only at hSw); go_simp; (try with_reducible rfl)
      (try simp only [Act.put, uS20, xA, xB, xC])
      refine tkV (v := ?_) 21 uS21 ?_ ?_
      rotate_left
      · intro w hSw; (try dsimp only at hSw); go_simp; (try with_reducible rfl)
      (try simp only [Act.put, uS21, xA, xB, xC])
      refine tkV (v := ?_) 22 uS22 ?_ ?_
      rotate_left
      · intro w hSw; (try dsimp only at hSw); go_simp; (try with_reducible rfl)
      (try simp only [Act.put, uS22, xA, xB, xC])
      refine tkV (v := ?_) 23 uS23 ?_ ?_
      rotate_left
      · intro w hSw; (try dsimp only at hSw); go_simp; (try with_reducible rfl)
      (try simp only [Act.put, uS23, xA, xB, xC])
      refine tkV (v := ?_) 24 uS24 ?_ ?_
      rotate_left
      · intro w hSw; (try dsimp only at hSw); go_simp; (try with_reducible rfl)
      (try simp only [Act.put, uS24, xA, xB, xC])
      refine tkV (v := ?_) 25 uS25 ?_ ?_
      rotate_left
      · intro w hSw; (try dsimp only at hSw); go_simp; (try with_reducible rfl)
      (try simp only [Act.put, uS25, xA, xB, xC])
      refine tkV (v := ?_) 26 uS26 ?_ ?_
      rotate_left
      · intro w hSw; (try dsimp only at hSw); go_simp; (try with_reducible rfl)
      (try simp only [Act.put, uS26, xA, xB, xC])
      refine tkV (v := ?_) 27 uS27 ?_ ?_
      rotate_left
      · intro w hSw; (try dsimp only at hSw); go_simp; (try with_reducible rfl)
      (try simp only [Act.put, uS27, xA, xB, xC])
      refine tkV (v := ?_) 28 uS28 ?_ ?_
      rotate_left
      · intro w hSw; (try dsimp only at hSw); go_simp; (try with_reducible rfl)
      (try simp only [Act.put, uS28, xA, xB, xC])
      refine tkV (v := ?_) 29 uS29 ?_ ?_
      rotate_left
      · intro w hSw; (try dsimp only at hSw); go_simp; (try with_reducible rfl)
      (try simp only [Act.put, uS29, xA, xB, xC])
      refine tkV (v := ?_) 30 uS30 ?_ ?_
      rotate_left
      · intro w hSw; (try dsimp only at hSw); go_simp; (try with_reducible rfl)
      (try simp only [Act.put, uS30, xA, xB, xC])
      refine tkV (v := ?_) 31 uS31 ?_ ?_
      rotate_left
      · intro w hSw; (try dsimp only at hSw); go_simp; (try with_reducible rfl)
      (try simp only [Act.put, uS31, xA, xB, xC])
      refine tkE 32 uS32 rfl (by kernel_rfl) (fun K hK => ?_)
      go_simp
      (refine (CUc.out _ (K00.out.trans (K4.out.trans (by first | assumption | exact Kp.drew _)))).mono ?_; rintro e w' ⟨rfl, k1⟩; have k2 := Kp.trans (show Kp w4 _ from (by first | assumption | exact Kp.drew _)) k1; clear k1)
      (try go_wp2_with fail)
      refine hK.out _ _ ?_ (fun hHeld4 => ?_)
      · (try dsimp only); exact KS.out _ (by first | assumption | exact Kp.drew _)
      clear hK K hHeld3
      (try simp only [Act.put, uS32, xA, xB, xC])
      refine tkV (v := ?_) 33 uS33 ?_ ?_
      rotate_left
      · intro w hSw; (try dsimp only at hSw); go_simp; (try with_reducible rfl)
      (try simp only [Act.put, uS33, xA, xB, xC])
      refine tkV (v := ?_) 34 uS34 ?_ ?_
      rotate_left
      · intro w hSw; (try dsimp only at hSw); go_simp; (try with_reducible rfl)
      (try simp only [Act.put, uS34, xA, xB, xC])
      refine tkV (v := ?_) 35 uS35 ?_ ?_
      rotate_left
      · intro w hSw; (try dsimp only at hSw); go_simp; (try with_reducible rfl)
      (try simp only [Act.put, uS35, xA, xB, xC])
      refine tkV (v := ?_) 36 uS36 ?_ ?_
      rotate_left
      · intro w hSw; (try dsimp only at hSw); go_simp; (try with_reducible rfl)
      (try simp only [Act.put, uS36, xA, xB, xC])
      refine tkV (v := ?_) 37 uS37 ?_ ?_
      rotate_left
      · intro w hSw; (try dsimp only at hSw); go_simp; (try with_reducible rfl)
      (try simp only [Act.put, uS37, xA, xB, xC])
      refine wpAnyH_done (by kernel_rfl) ?_ _
      go_wp2
      go_ret
      exact ⟨rfl, K00.out.trans (K4.out.trans k2)⟩
    | true =>
      simp only [Bool.true_and] at CHH
      go_enter Tryd.func4, Tryd.ntmps4
      go_wp2_with fail
      rw [← HW.out]
      refine (AW.out _ (K00.out.trans (by first | with_reducible exact K0.out | with_reducible exact K0.out.trans (Kp.alloc _ _) | with_reducible exact (K0.out.trans (Kp.alloc _ _)).trans (Kp.alloc _ _) | with_reducible exact ((K0.out.trans (Kp.alloc _ _)).trans (Kp.alloc _ _)).trans (Kp.alloc _ _) | with_reducible exact K0.out.trans (Kp.drew _) | with_reducible exact K0.out.trans (Kp.drewN _ _)))).mono ?_
      rintro e w1 ⟨rfl, kk⟩
      have K1 := Lib.hid ((show Kp W0 _ from (by first | with_reducible exact K0.out | with_reducible exact K0.out.trans (Kp.alloc _ _) | with_reducible exact (K0.out.trans (Kp.alloc _ _)).trans (Kp.alloc _ _) | with_reducible exact ((K0.out.trans (Kp.alloc _ _)).trans (Kp.alloc _ _)).trans (Kp.alloc _ _) | with_reducible exact K0.out.trans (Kp.drew _) | with_reducible exact K0.out.trans (Kp.drewN _ _))).trans kk)
      clear kk
      clear c0 c1 c2 c3
      obtain ⟨c0, c1, c2, c3⟩ := HB.out w1 K1.out
      go_wp2_with fail
      refine (SH.out _ (K00.out.trans (by first | with_reducible exact K1.out | with_reducible exact K1.out.trans (Kp.alloc _ _) | with_reducible exact (K1.out.trans (Kp.alloc _ _)).trans (Kp.alloc _ _) | with_reducible exact ((K1.out.trans (Kp.alloc _ _)).trans (Kp.alloc _ _)).trans (Kp.alloc _ _) | with_reducible exact K1.out.trans (Kp.drew _) | with_reducible exact K1.out.trans (Kp.drewN _ _)))).mono ?_
      rintro e w2 ⟨rfl, kk⟩
      have K2 := Lib.hid ((show Kp W0 _ from (by first | with_reducible exact K1.out | with_reducible exact K1.out.trans (Kp.alloc _ _) | with_reducible exact (K1.out.trans (Kp.alloc _ _)).trans (Kp.alloc _ _) | with_reducible exact ((K1.out.trans (Kp.alloc _ _)).trans (Kp.alloc _ _)).trans (Kp.alloc _ _) | with_reducible exact K1.out.trans (Kp.drew _) | with_reducible exact K1.out.trans (Kp.drewN _ _))).trans kk)
      clear kk
      clear c0 c1 c2 c3
      obtain ⟨c0, c1, c2, c3⟩ := HB.out w2 K2.out
      go_wp2_with fail
      refine (STH.out _ (K00.out.trans (by first | with_reducible exact K2.out | with_reducible exact K2.out.trans (Kp.alloc _ _) | with_reducible exact (K2.out.trans (Kp.alloc _ _)).trans (Kp.alloc _ _) | with_reducible exact ((K2.out.trans (Kp.alloc _ _)).trans (Kp.alloc _ _)).trans (Kp.alloc _ _) | with_reducible exact K2.out.trans (Kp.drew _) | with_reducible exact K2.out.trans (Kp.drewN _ _)))).mono ?_
      rintro e w3 ⟨v3, rfl, own3, kk⟩
      have K3 := Lib.hid ((show Kp W0 _ from (by first | with_reducible exact K2.out | with_reducible exact K2.out.trans (Kp.alloc _ _) | with_reducible exact (K2.out.trans (Kp.alloc _ _)).trans (Kp.alloc _ _) | with_reducible exact ((K2.out.trans (Kp.alloc _ _)).trans (Kp.alloc _ _)).trans (Kp.alloc _ _) | with_reducible exact K2.out.trans (Kp.drew _) | with_reducible exact K2.out.trans (Kp.drewN _ _))).trans kk)
      have RS := Lib.hid (fun w1 (q : Kp w3 w1) => (runsAt_own own3).kp q)
      obtain ⟨aS, cS, rfl⟩ := own_slice own3
      clear own3
      clear kk
      clear c0 c1 c2 c3
      obtain ⟨c0, c1, c2, c3⟩ := HB.out w3 K3.out
      have G3_3 := Lib.hid (Kp.refl w3)
      go_wp2_with fail
      refine (M1.out _).mono ?_
      rintro e w4 ⟨rfl, kk⟩
      have K4 := Lib.hid ((show Kp W0 _ from (by first | with_reducible exact K3.out | with_reducible exact K3.out.trans (Kp.alloc _ _) | with_reducible exact (K3.out.trans (Kp.alloc _ _)).trans (Kp.alloc _ _) | with_reducible exact ((K3.out.trans (Kp.alloc _ _)).trans (Kp.alloc _ _)).trans (Kp.alloc _ _) | with_reducible exact K3.out.trans (Kp.drew _) | with_reducible exact K3.out.trans (Kp.drewN _ _))).trans kk)
      have G3_4 := Lib.hid (G3_3.out.trans ((show Kp w3 _ from (by first | with_reducible exact Kp.refl _ | with_reducible exact Kp.alloc _ _ | with_reducible exact (Kp.alloc _ _).trans (Kp.alloc _ _) | with_reducible exact ((Kp.alloc _ _).trans (Kp.alloc _ _)).trans (Kp.alloc _ _) | with_reducible exact Kp.drew _ | with_reducible exact Kp.drewN _ _)).trans kk))
      clear kk
      clear c0 c1 c2 c3
      obtain ⟨c0, c1, c2, c3⟩ := HB.out w4 K4.out
      go_wp2_with fail
      refine (M2.out _).mono ?_
      rintro e w5 ⟨rfl, kk⟩
      have K5 := Lib.hid ((show Kp W0 _ from (by first | with_reducible exact K4.out | with_reducible exact K4.out.trans (Kp.alloc _ _) | with_reducible exact (K4.out.trans (Kp.alloc _ _)).trans (Kp.alloc _ _) | with_reducible exact ((K4.out.trans (Kp.alloc _ _)).trans (Kp.alloc _ _)).trans (Kp.alloc _ _) | with_reducible exact K4.out.trans (Kp.drew _) | with_reducible exact K4.out.trans (Kp.drewN _ _))).trans kk)
      have G3_5 := Lib.hid (G3_4.out.trans ((show Kp w4 _ from (by first | with_reducible exact Kp.refl _ | with_reducible exact Kp.alloc _ _ | with_reducible exact (Kp.alloc _ _).trans (Kp.alloc _ _) | with_reducible exact ((Kp.alloc _ _).trans (Kp.alloc _ _)).trans (Kp.alloc _ _) | with_reducible exact Kp.drew _ | with_reducible exact Kp.drewN _ _)).trans kk))
      clear kk
      clear c0 c1 c2 c3
      obtain ⟨c0, c1, c2, c3⟩ := HB.out w5 K5.out
      rcases RS.out _ G3_5.out with ⟨_, _, _, e⟩ | ⟨bS, oS, capS, evS, hcS, hmS, hxS⟩
      · exfalso; have := HN.out; rw [e] at this; simp at this
      cases evS
      have e1 := (hxS 0 (by have := HN.out; omega)).1
      have e2 := (hxS n (by have := HN.out; omega)).2
      rw [Nat.zero_mul, Nat.add_zero, HLO.out] at e1
      rw [HHI.out] at e2
      clear hxS hcS hmS
      have KS := Lib.hid (fun w' (kq : Kp w5 w') => show w'.cell? ⟨w.heap.size, 0, none⟩ = some (.int .i64 2) ∧ w'.cell? ⟨w.heap.size, 1, none⟩ = some (.string yp) ∧ w'.cell? ⟨w.heap.size, 2, none⟩ = some (.string mp) ∧ w'.cell? ⟨w.heap.size, 3, none⟩ = some (.string dp) ∧ w'.cell? ⟨bS, oS, none⟩ = some (.int .i64 lo) ∧ w'.cell? ⟨bS, oS + n * 2 + 1, none⟩ = some (.int .i64 hi') ∧ Kp w5 w' from ⟨(HB.out w' (K5.out.trans kq)).1, (HB.out w' (K5.out.trans kq)).2.1, (HB.out w' (K5.out.trans kq)).2.2.1, (HB.out w' (K5.out.trans kq)).2.2.2, cell_up kq e1, cell_up kq e2, kq⟩)
      go_wp2_with fail
      refine wp_region_held_drew (S := fun w' => w'.cell? ⟨w.heap.size, 0, none⟩ = some (.int .i64 2) ∧ w'.cell? ⟨w.heap.size, 1, none⟩ = some (.string yp) ∧ w'.cell? ⟨w.heap.size, 2, none⟩ = some (.string mp) ∧ w'.cell? ⟨w.heap.size, 3, none⟩ = some (.string dp) ∧ w'.cell? ⟨bS, oS, none⟩ = some (.int .i64 lo) ∧ w'.cell? ⟨bS, oS + n * 2 + 1, none⟩ = some (.int .i64 hi') ∧ Kp w5 w') (by kernel_rfl) ?_ (fun hHeld0 => ?_)
      · (try dsimp only); exact KS.out _ (by first | assumption | exact Kp.drew _)
      refine tkV (v := ?_) 0 uS0 ?_ ?_
      rotate_left
      · intro w hSw; (try dsimp only at hSw); go_simp; (try with_reducible rfl)
      (try simp only [Act.put, uS0, xA, xB, xC])
      refine tkV (v := ?_) 1 uS1 ?_ ?_
      rotate_left
      · intro w hSw; (try dsimp only at hSw); go_simp; (try with_reducible rfl)
      (try simp only [Act.put, uS1, xA, xB, xC])
      refine tkV (v := ?_) 2 uS2 ?_ ?_
      rotate_left
      · intro w hSw; (try dsimp only at hSw); go_simp; (try with_reducible rfl)
      (try simp only [Act.put, uS2, xA, xB, xC])
      refine tkE 3 uS3 rfl (by kernel_rfl) (fun K hK => ?_)
      go_simp
      (refine (CSn.out _ _ (RS.out _ (G3_5.out.trans (by first | assumption | exact Kp.drew _)))).mono ?_; rintro e w' ⟨rfl, k1⟩; have k2 := Kp.trans (show Kp w5 _ from (by first | assumption | exact Kp.drew _)) k1; clear k1)
      (try go_wp2_with fail)
      refine hK.out _ _ ?_ (fun hHeld1 => ?_)
      · (try dsimp only); exact KS.out _ (by first | assumption | exact Kp.drew _)
      clear hK K hHeld0
      (try simp only [Act.put, uS3, xA, xB, xC])
      refine tkV (v := ?_) 4 uS4 ?_ ?_
      rotate_left
      · intro w hSw; (try dsimp only at hSw); go_simp; (try with_reducible rfl)
      (try simp only [Act.put, uS4, xA, xB, xC])
      refine tkV (v := ?_) 5 uS5 ?_ ?_
      rotate_left
      · intro w hSw; (try dsimp only at hSw); go_simp; (try with_reducible rfl)
      (try simp only [Act.put, uS5, xA, xB, xC])
      refine tkV (v := ?_) 6 uS6 ?_ ?_
      rotate_left
      · intro w hSw; (try dsimp only at hSw); go_simp; (try with_reducible rfl)
      (try simp only [Act.put, uS6, xA, xB, xC])
      refine tkV (v := ?_) 7 uS7 ?_ ?_
      rotate_left
      · intro w hSw; (try dsimp only at hSw); go_simp; (try with_reducible rfl)
      (try simp only [Act.put, uS7, xA, xB, xC])
      refine tkV (v := ?_) 9 uS9 ?_ ?_
      rotate_left
      · intro w hSw; (try dsimp only at hSw); go_simp; (try with_reducible rfl)
      (try simp only [Act.put, uS9, xA, xB, xC])
      refine tkE 8 uS8 rfl (by kernel_rfl) (fun K hK => ?_)
      go_simp
      (refine (CHH.out _ _ _ (RS.out _ (G3_5.out.trans (by first | assumption | exact Kp.drew _)))).mono ?_; rintro e w' ⟨rfl, k1⟩; have k2 := Kp.trans (show Kp w5 _ from (by first | assumption | exact Kp.drew _)) k1; clear k1)
      (try go_wp2_with fail)
      refine hK.out _ _ ?_ (fun hHeld2 => ?_)
      · (try dsimp only); exact KS.out _ (by first | assumption | exact Kp.drew _)
      clear hK K hHeld1
      (try simp only [Act.put, uS8, xA, xB, xC])
      refine tkV (v := ?_) 10 uS10 ?_ ?_
      rotate_left
      · intro w hSw; (try dsimp only at hSw); go_simp; (try with_reducible rfl)
      (try simp only [Act.put, uS10, xA, xB, xC])
      refine tkV (v := ?_) 11 uS11 ?_ ?_
      rotate_left
      · intro w hSw; (try dsimp only at hSw); go_simp; (try with_reducible rfl)
      (try simp only [Act.put, uS11, xA, xB, xC])
      refine tkV (v := ?_) 12 uS12 ?_ ?_
      rotate_left
      · intro w hSw; (try dsimp only at hSw); go_simp; (try with_reducible rfl)
      (try simp only [Act.put, uS12, xA, xB, xC])
      refine tkV (v := ?_) 13 uS13 ?_ ?_
      rotate_left
      · intro w hSw; (try dsimp only at hSw); go_simp; (try with_reducible rfl)
      (try simp only [Act.put, uS13, xA, xB, xC])
      refine tkE 14 uS14 rfl (by kernel_rfl) (fun K hK => ?_)
      go_simp
      (refine (CCt.out _ _ (RS.out _ (G3_5.out.trans (by first | assumption | exact Kp.drew _)))).mono ?_; rintro e w' ⟨rfl, k1⟩; have k2 := Kp.trans (show Kp w5 _ from (by first | assumption | exact Kp.drew _)) k1; clear k1)
      (try go_wp2_with fail)
      refine hK.out _ _ ?_ (fun hHeld3 => ?_)
      · (try dsimp only); exact KS.out _ (by first | assumption | exact Kp.drew _)
      clear hK K hHeld2
      (try simp only [Act.put, uS14, xA, xB, xC])
      refine tkV (v := ?_) 15 uS15 ?_ ?_
      rotate_left
      · intro w hSw; (try dsimp only at hSw); go_simp; (try with_reducible rfl)
      (try simp only [Act.put, uS15, xA, xB, xC])
      refine tkV (v := ?_) 16 uS16 ?_ ?_
      rotate_left
      · intro w hSw; (try dsimp only at hSw); go_simp; (try with_reducible rfl)
      (try simp only [Act.put, uS16, xA, xB, xC])
      refine tkV (v := ?_) 17 uS17 ?_ ?_
      rotate_left
      · intro w hSw; (try dsimp only at hSw); go_simp; (try with_reducible rfl)
      (try simp only [Act.put, uS17, xA, xB, xC])
      refine tkV (v := ?_) 18 uS18 ?_ ?_
      rotate_left
      · intro w hSw; (try dsimp only at hSw); go_simp; (try with_reducible rfl)
      (try simp only [Act.put, uS18, xA, xB, xC])
      refine tkV (v := ?_) 19 uS19 ?_ ?_
      rotate_left
      · intro w hSw; (try dsimp only at hSw); go_simp; (try with_reducible rfl)
      (try simp only [Act.put, uS19, xA, xB, xC])
      refine tkV (v := ?_) 20 uS20 ?_ ?_
      rotate_left
      · intro w hSw; (try dsimp only at hSw); go_simp; (try with_reducible rfl)
      (try simp only [Act.put, uS20, xA, xB, xC])
      refine tkV (v := ?_) 21 uS21 ?_ ?_
      rotate_left
      · intro w hSw; (try dsimp only at hSw); go_simp; (try with_reducible rfl)
      (try simp only [Act.put, uS21, xA, xB, xC])
      refine tkV (v := ?_) 22 uS22 ?_ ?_
      rotate_left
      · intro w hSw; (try dsimp only at hSw); go_simp; (try with_reducible rfl)
      (try simp only [Act.put, uS22, xA, xB, xC])
      refine tkV (v := ?_) 23 uS23 ?_ ?_
      rotate_left
      · intro w hSw; (try dsimp only at hSw); go_simp; (try with_reducible rfl)
      (try simp only [Act.put, uS23, xA, xB, xC])
      refine tkV (v := ?_) 24 uS24 ?_ ?_
      rotate_left
      · intro w hSw; (try dsimp only at hSw); go_simp; (try with_reducible rfl)
      (try simp only [Act.put, uS24, xA, xB, xC])
      refine tkV (v := ?_) 25 uS25 ?_ ?_
      rotate_left
      · intro w hSw; (try dsimp only at hSw); go_simp; (try with_reducible rfl)
      (try simp only [Act.put, uS25, xA, xB, xC])
      refine tkV (v := ?_) 26 uS26 ?_ ?_
      rotate_left
      · intro w hSw; (try dsimp only at hSw); go_simp; (try with_reducible rfl)
      (try simp only [Act.put, uS26, xA, xB, xC])
      refine tkV (v := ?_) 27 uS27 ?_ ?_
      rotate_left
      · intro w hSw; (try dsimp only at hSw); go_simp; (try with_reducible rfl)
      (try simp only [Act.put, uS27, xA, xB, xC])
      refine tkV (v := ?_) 28 uS28 ?_ ?_
      rotate_left
      · intro w hSw; (try dsimp only at hSw); go_simp; (try with_reducible rfl)
      (try simp only [Act.put, uS28, xA, xB, xC])
      refine tkV (v := ?_) 29 uS29 ?_ ?_
      rotate_left
      · intro w hSw; (try dsimp only at hSw); go_simp; (try with_reducible rfl)
      (try simp only [Act.put, uS29, xA, xB, xC])
      refine tkV (v := ?_) 30 uS30 ?_ ?_
      rotate_left
      · intro w hSw; (try dsimp only at hSw); go_simp; (try with_reducible rfl)
      (try simp only [Act.put, uS30, xA, xB, xC])
      refine tkV (v := ?_) 31 uS31 ?_ ?_
      rotate_left
      · intro w hSw; (try dsimp only at hSw); go_simp; (try with_reducible rfl)
      (try simp only [Act.put, uS31, xA, xB, xC])
      refine tkE 32 uS32 rfl (by kernel_rfl) (fun K hK => ?_)
      go_simp
      (refine (CUc.out _ (K00.out.trans (K5.out.trans (by first | assumption | exact Kp.drew _)))).mono ?_; rintro e w' ⟨rfl, k1⟩; have k2 := Kp.trans (show Kp w5 _ from (by first | assumption | exact Kp.drew _)) k1; clear k1)
      (try go_wp2_with fail)
      refine hK.out _ _ ?_ (fun hHeld4 => ?_)
      · (try dsimp only); exact KS.out _ (by first | assumption | exact Kp.drew _)
      clear hK K hHeld3
      (try simp only [Act.put, uS32, xA, xB, xC])
      refine tkV (v := ?_) 33 uS33 ?_ ?_
      rotate_left
      · intro w hSw; (try dsimp only at hSw); go_simp; (try with_reducible rfl)
      (try simp only [Act.put, uS33, xA, xB, xC])
      refine tkV (v := ?_) 34 uS34 ?_ ?_
      rotate_left
      · intro w hSw; (try dsimp only at hSw); go_simp; (try with_reducible rfl)
      (try simp only [Act.put, uS34, xA, xB, xC])
      refine tkV (v := ?_) 35 uS35 ?_ ?_
      rotate_left
      · intro w hSw; (try dsimp only at hSw); go_simp; (try with_reducible rfl)
      (try simp only [Act.put, uS35, xA, xB, xC])
      refine tkV (v := ?_) 36 uS36 ?_ ?_
      rotate_left
      · intro w hSw; (try dsimp only at hSw); go_simp; (try with_reducible rfl)
      (try simp only [Act.put, uS36, xA, xB, xC])
      refine tkV (v := ?_) 37 uS37 ?_ ?_
      rotate_left
      · intro w hSw; (try dsimp only at hSw); go_simp; (try with_reducible rfl)
      (try simp only [Act.put, uS37, xA, xB, xC])
      refine wpAnyH_done (by kernel_rfl) ?_ _
      go_wp2
      go_ret
      exact ⟨rfl, K00.out.trans (K5.out.trans k2)⟩
theorem pointUnits_walk (p : PT) (i : Int) (w : World) (h1 : -9223372036854775808 ≤ p.k) (h2 : p.k ≤ 9223372036854775807) (h3 : -9223372036854775808 ≤ i) (h4 : i ≤ 9223372036854775807) (T : Tabs8 w) :
    Calls Tryd.prog 4 #[ptV p, .int .i64 i] w fun e w' => e = .returned (.bool true) ∧ Kp w w' := by
  rcases Bool.eq_false_or_eq_true (shortP p) with hs | hs
  · rcases setE_cases p with ⟨he, hS, hN, hR⟩ | ⟨hR, ⟨he, hS⟩ | ⟨he, hS⟩⟩
    · by_cases hne : numR p = []
      · by_cases k0 : p.k = 0
        · exact units_0e p i w h1 h2 h3 h4 T hs he hS hN hR k0 hne
        · by_cases k1 : p.k = 1
          · exact units_1e p i w h1 h2 h3 h4 T hs he hS hN hR k1 hne
          · by_cases k2 : p.k = 2
            · exact units_2e p i w h1 h2 h3 h4 T hs he hS hN hR k2 hne
            · exact units_3e p i w h1 h2 h3 h4 T hs he hS hN hR ⟨k0, k1, k2⟩ hne
      · by_cases k0 : p.k = 0
        · exact units_0n p i w h1 h2 h3 h4 T hs he hS hN hR k0 hne
        · by_cases k1 : p.k = 1
          · exact units_1n p i w h1 h2 h3 h4 T hs he hS hN hR k1 hne
          · by_cases k2 : p.k = 2
            · exact units_2n p i w h1 h2 h3 h4 T hs he hS hN hR k2 hne
            · exact units_3n p i w h1 h2 h3 h4 T hs he hS hN hR ⟨k0, k1, k2⟩ hne
    · exact units_e2 p i w h1 h2 h3 h4 T hs he hS hR
    · exact units_e8 p i w h1 h2 h3 h4 T hs he hS hR
  · exact units_0 p i w h1 h2 h3 h4 T hs
end Go.Proofs.YtbjnghmmfolaeaaDoor
