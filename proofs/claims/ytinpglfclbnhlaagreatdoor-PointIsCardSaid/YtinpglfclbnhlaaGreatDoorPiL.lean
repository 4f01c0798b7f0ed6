/-
  Layer 8: PointIs.
-/
import Derived.Test.YtinpglfclbnhlaaGreatDoorPiN
import Derived.Test.YtinpglfclbnhlaaGreatDoorPiB
import Derived.Test.YtinpglfclbnhlaaGreatDoorGSetA
import Derived.Test.YtinpglfclbnhlaaGreatDoorGL8S
namespace Go.Proofs.YtinpglfclbnhlaaGreatDoor
open Go.RowKit
set_option linter.unusedVariables false
set_option linter.unusedSimpArgs false
theorem short_sz {p : PT} (h : shortP p = true) : p.y.size ≤ 10 ∧ p.m.size ≤ 10 ∧ p.d.size ≤ 10 := by
  unfold shortP at h
  simp only [Bool.and_eq_true, decide_eq_true_eq] at h
  omega
theorem rsame_self (v u : Value) (l : List R) (w : World) (hv : RunsAt w v l) (hu : RunsAt w u l) (hn : l.length ≤ 4000000) :
    Calls Tryz.prog 12 #[v, u] w fun e w' => e = .returned (.bool true) ∧ Kp w w' := by
  have h := rsame_any v u l l w hv hu hn hn
  rw [decide_eq_true (rfl : l = l)] at h
  exact h
theorem radius_kp (k : Int) (w : World) (T : Tabs8 w) : Calls Tryz.prog 17 #[.int .i64 k] w fun e w' => e = .returned (.int .i64 (radV k)) ∧ Kp w w' := (radius_any k w T).mono fun e w' h => ⟨h.1, h.2 ▸ Kp.refl w⟩
theorem rradius_kp (k : Int) (w : World) : Calls Tryz.prog 18 #[.int .i64 k] w fun e w' => e = .returned (.int .i64 (radV k)) ∧ Kp w w' := (rradius_any k w).mono fun e w' h => ⟨h.1, h.2 ▸ Kp.refl w⟩
theorem nearS_len (p : PT) : (nearS p).length ≤ 4000000 := by
  have := growR_len p
  unfold nearS
  repeat' split
  all_goals simp
  all_goals omega
set_option maxHeartbeats 16000000 in
set_option maxRecDepth 100000 in
theorem pis_0 (p : PT) (t : ByteArray) (kind : Int) (w : World) (hp1 : -9223372036854775808 ≤ p.k) (hp2 : p.k ≤ 9223372036854775807) (hkind1 : -9223372036854775808 ≤ kind) (hkind2 : kind ≤ 9223372036854775807) (T : Tabs8 w) (hs : shortP p = true → ¬ (t.size : Int) ≤ 40) :
    Calls Tryz.prog 3 #[ptV p, .string t, .int .i64 kind] w fun e w' => e = .returned (.bool true) ∧ Kp w w' := by
  have AW := Lib.hid (fun w1 (kk : Kp w w1) => awake08 w1 (T.kp kk))
  have SH := Lib.hid (fun w1 (kk : Kp w w1) => short_any p w1)
  obtain ⟨sb, hsb⟩ : ∃ b, shortP p = b := ⟨_, rfl⟩
  rw [hsb] at SH hs
  clear hsb T
  obtain ⟨kp, yp, mp, dp⟩ := p
  unfold ptV at *
  simp only at *
  obtain ⟨W0, hW⟩ : ∃ W0, W0 = w.alloc (.cells #[.int .i64 kp, .string yp, .string mp, .string dp] 23) := ⟨_, rfl⟩
  have K00 := Lib.hid (show Kp w W0 by rw [hW]; exact Kp.alloc _ _)
  have HB := Lib.hid (fun w1 (k : Kp W0 w1) => show w1.cell? ⟨w.heap.size, 0, none⟩ = some (.int .i64 kp) ∧ w1.cell? ⟨w.heap.size, 1, none⟩ = some (.string yp) ∧ w1.cell? ⟨w.heap.size, 2, none⟩ = some (.string mp) ∧ w1.cell? ⟨w.heap.size, 3, none⟩ = some (.string dp) from ⟨cell_up k (show W0.cell? ⟨w.heap.size, 0, none⟩ = some (.int .i64 kp) by rw [hW]; simp), cell_up k (show W0.cell? ⟨w.heap.size, 1, none⟩ = some (.string yp) by rw [hW]; simp), cell_up k (show W0.cell? ⟨w.heap.size, 2, none⟩ = some (.string mp) by rw [hW]; simp), cell_up k (show W0.cell? ⟨w.heap.size, 3, none⟩ = some (.string dp) by rw [hW]; simp)⟩)
  obtain ⟨c0, c1, c2, c3⟩ := HB.out W0 (Kp.refl _)
  have K0 := Lib.hid (Kp.refl W0)
  have HW := Lib.hid hW
  clear hW
  cases sb with
  | false =>
    go_enter Tryz.func3, Tryz.ntmps3
    go_wp2_with fail
    rw [← HW.out]
    refine (AW.out _ (K00.out.trans (by first | with_reducible exact K0.out | with_reducible exact K0.out.trans (Kp.alloc _ _) | with_reducible exact (K0.out.trans (Kp.alloc _ _)).trans (Kp.alloc _ _) | with_reducible exact ((K0.out.trans (Kp.alloc _ _)).trans (Kp.alloc _ _)).trans (Kp.alloc _ _) | with_reducible exact K0.out.trans (Kp.drew _) | with_reducible exact K0.out.trans (Kp.drewN _ _)))).mono ?_
    rintro e w1 ⟨rfl, kk⟩
    have K1 := Lib.hid ((show Kp W0 _ from (by first | with_reducible exact K0.out | with_reducible exact K0.out.trans (Kp.alloc _ _) | with_reducible exact (K0.out.trans (Kp.alloc _ _)).trans (Kp.alloc _ _) | with_reducible exact ((K0.out.trans (Kp.alloc _ _)).trans (Kp.alloc _ _)).trans (Kp.alloc _ _) | with_reducible exact K0.out.trans (Kp.drew _) | with_reducible exact K0.out.trans (Kp.drewN _ _))).trans kk)
    clear kk
    clear c0 c1 c2 c3
    obtain ⟨c0, c1, c2, c3⟩ := HB.out w1 K1.out
    go_wp2_with fail
    refine (SH.out _ (K00.out.trans (by first | with_reducible exact K1.out | with_reducible exact K1.out.trans (Kp.alloc _ _) | with_reducible exact (K1.out.trans (Kp.alloc _ _)).trans (Kp.alloc _ _) | with_reducible exact ((K1.out.trans (Kp.alloc _ _)).trans (Kp.alloc _ _)).trans (Kp.alloc _ _) | with_reducible exact K1.out.trans (Kp.drew _) | with_reducible exact K1.out.trans (Kp.drewN _ _)))).mono ?_
    rintro e w2 ⟨rfl, kk⟩
    have K2 := Lib.hid ((show Kp W0 _ from (by first | with_reducible exact K1.out | with_reducible exact K1.out.trans (Kp.alloc _ _) | with_reducible exact (K1.out.trans (Kp.alloc _ _)).trans (Kp.alloc _ _) | with_reducible exact ((K1.out.trans (Kp.alloc _ _)).trans (Kp.alloc _ _)).trans (Kp.alloc _ _) | with_reducible exact K1.out.trans (Kp.drew _) | with_reducible exact K1.out.trans (Kp.drewN _ _))).trans kk)
    clear kk
    clear c0 c1 c2 c3
    obtain ⟨c0, c1, c2, c3⟩ := HB.out w2 K2.out
    go_wp2
    go_ret
    exact ⟨rfl, K00.out.trans K2.out⟩
  | true =>
    have ht : ¬ ((t.size : Int) ≤ 40) := fun h => hs rfl h
    have ht2 : (40 : Int) < (t.size : Int) := by omega
    clear hs ht
    go_enter Tryz.func3, Tryz.ntmps3
    go_wp2_with fail
    rw [← HW.out]
    refine (AW.out _ (K00.out.trans (by first | with_reducible exact K0.out | with_reducible exact K0.out.trans (Kp.alloc _ _) | with_reducible exact (K0.out.trans (Kp.alloc _ _)).trans (Kp.alloc _ _) | with_reducible exact ((K0.out.trans (Kp.alloc _ _)).trans (Kp.alloc _ _)).trans (Kp.alloc _ _) | with_reducible exact K0.out.trans (Kp.drew _) | with_reducible exact K0.out.trans (Kp.drewN _ _)))).mono ?_
    rintro e w1 ⟨rfl, kk⟩
    have K1 := Lib.hid ((show Kp W0 _ from (by first | with_reducible exact K0.out | with_reducible exact K0.out.trans (Kp.alloc _ _) | with_reducible exact (K0.out.trans (Kp.alloc _ _)).trans (Kp.alloc _ _) | with_reducible exact ((K0.out.trans (Kp.alloc _ _)).trans (Kp.alloc _ _)).trans (Kp.alloc _ _) | with_reducible exact K0.out.trans (Kp.drew _) | with_reducible exact K0.out.trans (Kp.drewN _ _))).trans kk)
    clear kk
    clear c0 c1 c2 c3
    obtain ⟨c0, c1, c2, c3⟩ := HB.out w1 K1.out
    go_wp2_with fail
    refine (SH.out _ (K00.out.trans (by first | with_reducible exact K1.out | with_reducible exact K1.out.trans (Kp.alloc _ _) | with_reducible exact (K1.out.trans (Kp.alloc _ _)).trans (Kp.alloc _ _) | with_reducible exact ((K1.out.trans (Kp.alloc _ _)).trans (Kp.alloc _ _)).trans (Kp.alloc _ _) | with_reducible exact K1.out.trans (Kp.drew _) | with_reducible exact K1.out.trans (Kp.drewN _ _)))).mono ?_
    rintro e w2 ⟨rfl, kk⟩
    have K2 := Lib.hid ((show Kp W0 _ from (by first | with_reducible exact K1.out | with_reducible exact K1.out.trans (Kp.alloc _ _) | with_reducible exact (K1.out.trans (Kp.alloc _ _)).trans (Kp.alloc _ _) | with_reducible exact ((K1.out.trans (Kp.alloc _ _)).trans (Kp.alloc _ _)).trans (Kp.alloc _ _) | with_reducible exact K1.out.trans (Kp.drew _) | with_reducible exact K1.out.trans (Kp.drewN _ _))).trans kk)
    clear kk
    clear c0 c1 c2 c3
    obtain ⟨c0, c1, c2, c3⟩ := HB.out w2 K2.out
    go_wp2
    go_ret
    exact ⟨rfl, K00.out.trans K2.out⟩
abbrev piR0 : Oper := { dst := some 90, op := Go.Op.move (Go.Operand.tmp 7), type := 4, pos := "law.go:41", after := #[], guard := none }
abbrev piR1 : Oper := { dst := some 91, op := Go.Op.move (Go.Operand.tmp 90), type := 4, pos := "law.go:41", after := #[{ on := 0, ground := Go.Ground.data }], guard := none }
abbrev piR2 : Oper := { dst := some 92, op := Go.Op.load 23 (Go.Operand.tmp 3), type := 23, pos := "law.go:41", after := #[{ on := 1, ground := Go.Ground.guard }], guard := some (1, true) }
abbrev piR3 : Oper := { dst := some 93, op := Go.Op.call { callee := Go.Callee.value (Go.Operand.func 13), args := #[Go.Operand.tmp 92], argTypes := #[23] }, type := 4, pos := "law.go:41", after := #[{ on := 2, ground := Go.Ground.data }, { on := 1, ground := Go.Ground.chain }, { on := 1, ground := Go.Ground.guard }], guard := some (1, true) }
abbrev piR4 : Oper := { dst := some 94, op := Go.Op.load 23 (Go.Operand.tmp 3), type := 23, pos := "law.go:41", after := #[{ on := 1, ground := Go.Ground.guard }], guard := some (1, true) }
abbrev piR5 : Oper := { dst := some 95, op := Go.Op.call { callee := Go.Callee.value (Go.Operand.func 14), args := #[Go.Operand.tmp 94], argTypes := #[23] }, type := 4, pos := "law.go:41", after := #[{ on := 4, ground := Go.Ground.data }, { on := 3, ground := Go.Ground.chain }, { on := 1, ground := Go.Ground.guard }], guard := some (1, true) }
abbrev piR6 : Oper := { dst := some 96, op := Go.Op.binOp Go.BinOp.eql 4 (Go.Operand.tmp 93) (Go.Operand.tmp 95) 4, type := 4, pos := "law.go:41", after := #[{ on := 3, ground := Go.Ground.data }, { on := 5, ground := Go.Ground.data }, { on := 1, ground := Go.Ground.guard }], guard := some (1, true) }
abbrev piR7 : Oper := { dst := some 97, op := Go.Op.pick (Go.Operand.tmp 91) (Go.Operand.tmp 96) (Go.Operand.const (Go.Value.bool false)), type := 4, pos := "law.go:41", after := #[{ on := 1, ground := Go.Ground.data }, { on := 6, ground := Go.Ground.data }], guard := none }
abbrev piR8 : Oper := { dst := some 98, op := Go.Op.move (Go.Operand.tmp 97), type := 4, pos := "law.go:41", after := #[{ on := 7, ground := Go.Ground.data }, { on := 5, ground := Go.Ground.chain }], guard := none }
abbrev piR9 : Oper := { dst := some 99, op := Go.Op.load 23 (Go.Operand.tmp 3), type := 23, pos := "law.go:41", after := #[{ on := 8, ground := Go.Ground.guard }], guard := some (8, true) }
abbrev piR10 : Oper := { dst := some 100, op := Go.Op.call { callee := Go.Callee.value (Go.Operand.func 15), args := #[Go.Operand.tmp 99], argTypes := #[23] }, type := 9, pos := "law.go:41", after := #[{ on := 9, ground := Go.Ground.data }, { on := 8, ground := Go.Ground.chain }, { on := 8, ground := Go.Ground.guard }], guard := some (8, true) }
abbrev piR11 : Oper := { dst := some 101, op := Go.Op.load 23 (Go.Operand.tmp 3), type := 23, pos := "law.go:41", after := #[{ on := 8, ground := Go.Ground.guard }], guard := some (8, true) }
abbrev piR12 : Oper := { dst := some 102, op := Go.Op.call { callee := Go.Callee.value (Go.Operand.func 16), args := #[Go.Operand.tmp 101], argTypes := #[23] }, type := 9, pos := "law.go:41", after := #[{ on := 11, ground := Go.Ground.data }, { on := 10, ground := Go.Ground.chain }, { on := 8, ground := Go.Ground.guard }], guard := some (8, true) }
abbrev piR13 : Oper := { dst := some 103, op := Go.Op.binOp Go.BinOp.eql 9 (Go.Operand.tmp 100) (Go.Operand.tmp 102) 9, type := 4, pos := "law.go:41", after := #[{ on := 10, ground := Go.Ground.data }, { on := 12, ground := Go.Ground.data }, { on := 8, ground := Go.Ground.guard }], guard := some (8, true) }
abbrev piR14 : Oper := { dst := some 104, op := Go.Op.pick (Go.Operand.tmp 98) (Go.Operand.tmp 103) (Go.Operand.const (Go.Value.bool false)), type := 4, pos := "law.go:41", after := #[{ on := 8, ground := Go.Ground.data }, { on := 13, ground := Go.Ground.data }], guard := none }
abbrev piR15 : Oper := { dst := some 105, op := Go.Op.move (Go.Operand.tmp 104), type := 4, pos := "law.go:41", after := #[{ on := 14, ground := Go.Ground.data }, { on := 12, ground := Go.Ground.chain }], guard := none }
abbrev piR16 : Oper := { dst := some 106, op := Go.Op.move (Go.Operand.tmp 2), type := 3, pos := "law.go:41", after := #[{ on := 15, ground := Go.Ground.guard }], guard := some (15, true) }
abbrev piR17 : Oper := { dst := some 107, op := Go.Op.call { callee := Go.Callee.value (Go.Operand.func 17), args := #[Go.Operand.tmp 106], argTypes := #[3] }, type := 3, pos := "law.go:41", after := #[{ on := 16, ground := Go.Ground.data }, { on := 15, ground := Go.Ground.chain }, { on := 15, ground := Go.Ground.guard }], guard := some (15, true) }
abbrev piR18 : Oper := { dst := some 108, op := Go.Op.move (Go.Operand.tmp 2), type := 3, pos := "law.go:41", after := #[{ on := 15, ground := Go.Ground.guard }], guard := some (15, true) }
abbrev piR19 : Oper := { dst := some 109, op := Go.Op.call { callee := Go.Callee.value (Go.Operand.func 18), args := #[Go.Operand.tmp 108], argTypes := #[3] }, type := 3, pos := "law.go:41", after := #[{ on := 18, ground := Go.Ground.data }, { on := 17, ground := Go.Ground.chain }, { on := 15, ground := Go.Ground.guard }], guard := some (15, true) }
abbrev piR20 : Oper := { dst := some 110, op := Go.Op.binOp Go.BinOp.eql 3 (Go.Operand.tmp 107) (Go.Operand.tmp 109) 3, type := 4, pos := "law.go:41", after := #[{ on := 17, ground := Go.Ground.data }, { on := 19, ground := Go.Ground.data }, { on := 15, ground := Go.Ground.guard }], guard := some (15, true) }
abbrev piR21 : Oper := { dst := some 111, op := Go.Op.pick (Go.Operand.tmp 105) (Go.Operand.tmp 110) (Go.Operand.const (Go.Value.bool false)), type := 4, pos := "law.go:41", after := #[{ on := 15, ground := Go.Ground.data }, { on := 20, ground := Go.Ground.data }], guard := none }
abbrev piR22 : Oper := { dst := some 6, op := Go.Op.assign (Go.Operand.tmp 111), type := 4, pos := "law.go:41", after := #[{ on := 21, ground := Go.Ground.data }, { on := 19, ground := Go.Ground.chain }, { on := 0, ground := Go.Ground.phase }, { on := 1, ground := Go.Ground.phase }, { on := 2, ground := Go.Ground.phase }, { on := 3, ground := Go.Ground.phase }, { on := 4, ground := Go.Ground.phase }, { on := 5, ground := Go.Ground.phase }, { on := 6, ground := Go.Ground.phase }, { on := 7, ground := Go.Ground.phase }, { on := 8, ground := Go.Ground.phase }, { on := 9, ground := Go.Ground.phase }, { on := 10, ground := Go.Ground.phase }, { on := 11, ground := Go.Ground.phase }, { on := 12, ground := Go.Ground.phase }, { on := 13, ground := Go.Ground.phase }, { on := 14, ground := Go.Ground.phase }, { on := 15, ground := Go.Ground.phase }, { on := 16, ground := Go.Ground.phase }, { on := 17, ground := Go.Ground.phase }, { on := 18, ground := Go.Ground.phase }, { on := 19, ground := Go.Ground.phase }, { on := 20, ground := Go.Ground.phase }, { on := 21, ground := Go.Ground.phase }], guard := none }
set_option maxHeartbeats 16000000 in
set_option maxRecDepth 100000 in
theorem pis_1 (p : PT) (t : ByteArray) (kind : Int) (w : World) (hp1 : -9223372036854775808 ≤ p.k) (hp2 : p.k ≤ 9223372036854775807) (hkind1 : -9223372036854775808 ≤ kind) (hkind2 : kind ≤ 9223372036854775807) (T : Tabs8 w) (hs : shortP p = true) (ht : (t.size : Int) ≤ 40) :
    Calls Tryz.prog 3 #[ptV p, .string t, .int .i64 kind] w fun e w' => e = .returned (.bool true) ∧ Kp w w' := by
  have AW := Lib.hid (fun w1 (kk : Kp w w1) => awake08 w1 (T.kp kk))
  have SH := Lib.hid (fun w1 (kk : Kp w w1) => short_any p w1)
  have sz := short_sz hs
  rw [hs] at SH
  have RT := Lib.hid (fun w1 (kk : Kp w w1) => ptRead_any t w1 (by omega) (T.kp kk).2.1)
  have RR := Lib.hid (fun w1 => rRead_any t w1 (by omega))
  rw [is_read] at RR
  have PS := Lib.hid (fun w1 (kk : Kp w w1) => pset_any p w1 (T.kp kk))
  have RS := Lib.hid (fun w1 => rset8_any p w1 sz.1 sz.2.1 sz.2.2)
  have PN := Lib.hid (fun w1 (kk : Kp w w1) => pnear_any p w1 (T.kp kk))
  have RN := Lib.hid (fun w1 => rnear8_any p w1 sz.1 sz.2.1 sz.2.2)
  have SA := Lib.hid (fun v u w1 hv hu => rsame_self v u (setS p) w1 hv hu (by have := setS_len p; omega))
  have SB := Lib.hid (fun v u w1 hv hu => rsame_self v u (nearS p) w1 hv hu (nearS_len p))
  have SP := Lib.hid (fun w1 (kk : Kp w w1) => ptSane_any p w1 (T.kp kk).2.1)
  have TP := Lib.hid (fun w1 (kk : Kp w w1) => ptText_any p w1 (T.kp kk).2.1)
  have SR := Lib.hid (fun w1 => rsane8_any p w1 sz.1 sz.2.1 sz.2.2)
  have TR := Lib.hid (fun w1 => rtextA_any p w1 sz.1 sz.2.1 sz.2.2)
  have DP := Lib.hid (fun w1 (kk : Kp w w1) => radius_kp kind w1 (T.kp kk))
  have DR := Lib.hid (fun w1 => rradius_kp kind w1)
  clear sz hs T
  generalize setE p = es at *
  generalize setS p = ss at *
  generalize nearE p = en at *
  generalize nearS p = sn at *
  generalize saneP p = sa at *
  generalize textP p = tx at *
  generalize radV kind = rv at *
  generalize (readP t).2 = ok at *
  generalize (readP t).1 = q at *
  obtain ⟨kr, yq, mq, dq⟩ := q
  have ht1 : (t.size : Int) ≤ 40 := ht
  obtain ⟨kp, yp, mp, dp⟩ := p
  unfold ptV at *
  simp only at *
  obtain ⟨W0, hW⟩ : ∃ W0, W0 = w.alloc (.cells #[.int .i64 kp, .string yp, .string mp, .string dp] 23) := ⟨_, rfl⟩
  have K00 := Lib.hid (show Kp w W0 by rw [hW]; exact Kp.alloc _ _)
  have HB := Lib.hid (fun w1 (k : Kp W0 w1) => show w1.cell? ⟨w.heap.size, 0, none⟩ = some (.int .i64 kp) ∧ w1.cell? ⟨w.heap.size, 1, none⟩ = some (.string yp) ∧ w1.cell? ⟨w.heap.size, 2, none⟩ = some (.string mp) ∧ w1.cell? ⟨w.heap.size, 3, none⟩ = some (.string dp) from ⟨cell_up k (show W0.cell? ⟨w.heap.size, 0, none⟩ = some (.int .i64 kp) by rw [hW]; simp), cell_up k (show W0.cell? ⟨w.heap.size, 1, none⟩ = some (.string yp) by rw [hW]; simp), cell_up k (show W0.cell? ⟨w.heap.size, 2, none⟩ = some (.string mp) by rw [hW]; simp), cell_up k (show W0.cell? ⟨w.heap.size, 3, none⟩ = some (.string dp) by rw [hW]; simp)⟩)
  obtain ⟨c0, c1, c2, c3⟩ := HB.out W0 (Kp.refl _)
  have K0 := Lib.hid (Kp.refl W0)
  have HW := Lib.hid hW
  clear hW
  go_enter Tryz.func3, Tryz.ntmps3
  go_wp2_with fail
  rw [← HW.out]
  refine (AW.out _ (K00.out.trans (by first | with_reducible exact K0.out | with_reducible exact K0.out.trans (Kp.alloc _ _) | with_reducible exact (K0.out.trans (Kp.alloc _ _)).trans (Kp.alloc _ _) | with_reducible exact ((K0.out.trans (Kp.alloc _ _)).trans (Kp.alloc _ _)).trans (Kp.alloc _ _) | with_reducible exact K0.out.trans (Kp.drew _) | with_reducible exact K0.out.trans (Kp.drewN _ _)))).mono ?_
  rintro e w1 ⟨rfl, kk⟩
  have K1 := Lib.hid ((show Kp W0 _ from (by first | with_reducible exact K0.out | with_reducible exact K0.out.trans (Kp.alloc _ _) | with_reducible exact (K0.out.trans (Kp.alloc _ _)).trans (Kp.alloc _ _) | with_reducible exact ((K0.out.trans (Kp.alloc _ _)).trans (Kp.alloc _ _)).trans (Kp.alloc _ _) | with_reducible exact K0.out.trans (Kp.drew _) | with_reducible exact K0.out.trans (Kp.drewN _ _))).trans kk)
  clear kk
  clear c0 c1 c2 c3
  obtain ⟨c0, c1, c2, c3⟩ := HB.out w1 K1.out
  go_wp2_with fail
  refine (SH.out _ (K00.out.trans (by first | with_reducible exact K1.out | with_reducible exact K1.out.trans (Kp.alloc _ _) | with_reducible exact (K1.out.trans (Kp.alloc _ _)).trans (Kp.alloc _ _) | with_reducible exact ((K1.out.trans (Kp.alloc _ _)).trans (Kp.alloc _ _)).trans (Kp.alloc _ _) | with_reducible exact K1.out.trans (Kp.drew _) | with_reducible exact K1.out.trans (Kp.drewN _ _)))).mono ?_
  rintro e w2 ⟨rfl, kk⟩
  have K2 := Lib.hid ((show Kp W0 _ from (by first | with_reducible exact K1.out | with_reducible exact K1.out.trans (Kp.alloc _ _) | with_reducible exact (K1.out.trans (Kp.alloc _ _)).trans (Kp.alloc _ _) | with_reducible exact ((K1.out.trans (Kp.alloc _ _)).trans (Kp.alloc _ _)).trans (Kp.alloc _ _) | with_reducible exact K1.out.trans (Kp.drew _) | with_reducible exact K1.out.trans (Kp.drewN _ _))).trans kk)
  clear kk
  clear c0 c1 c2 c3
  obtain ⟨c0, c1, c2, c3⟩ := HB.out w2 K2.out
  go_wp2_with fail
  refine (RT.out _ (K00.out.trans (by first | with_reducible exact K2.out | with_reducible exact K2.out.trans (Kp.alloc _ _) | with_reducible exact (K2.out.trans (Kp.alloc _ _)).trans (Kp.alloc _ _) | with_reducible exact ((K2.out.trans (Kp.alloc _ _)).trans (Kp.alloc _ _)).trans (Kp.alloc _ _) | with_reducible exact K2.out.trans (Kp.drew _) | with_reducible exact K2.out.trans (Kp.drewN _ _)))).mono ?_
  rintro e w3 ⟨rfl, kk⟩
  have K3 := Lib.hid ((show Kp W0 _ from (by first | with_reducible exact K2.out | with_reducible exact K2.out.trans (Kp.alloc _ _) | with_reducible exact (K2.out.trans (Kp.alloc _ _)).trans (Kp.alloc _ _) | with_reducible exact ((K2.out.trans (Kp.alloc _ _)).trans (Kp.alloc _ _)).trans (Kp.alloc _ _) | with_reducible exact K2.out.trans (Kp.drew _) | with_reducible exact K2.out.trans (Kp.drewN _ _))).trans kk)
  clear kk
  clear c0 c1 c2 c3
  obtain ⟨c0, c1, c2, c3⟩ := HB.out w3 K3.out
  obtain ⟨w4, hV⟩ : ∃ x, x = w3.alloc (.cells #[.int .i64 kr, .string yq, .string mq, .string dq] 23) := ⟨_, rfl⟩
  have ka : Kp w3 w4 := by rw [hV]; exact Kp.alloc _ _
  have hgq : w4.heap[w3.heap.size]? = some (.cells #[.int .i64 kr, .string yq, .string mq, .string dq] 23 (0, 0)) := by rw [hV]; exact heap_at _ _ _ rfl
  have q0 : w4.cell? ⟨w3.heap.size, 0, none⟩ = some (.int .i64 kr) := by simp [World.cell?, hgq]
  have q1 : w4.cell? ⟨w3.heap.size, 1, none⟩ = some (.string yq) := by simp [World.cell?, hgq]
  have q2 : w4.cell? ⟨w3.heap.size, 2, none⟩ = some (.string mq) := by simp [World.cell?, hgq]
  have q3 : w4.cell? ⟨w3.heap.size, 3, none⟩ = some (.string dq) := by simp [World.cell?, hgq]
  have HB2 := Lib.hid (fun w1 (k : Kp w4 w1) => show w1.cell? ⟨w.heap.size, 0, none⟩ = some (.int .i64 kp) ∧ w1.cell? ⟨w.heap.size, 1, none⟩ = some (.string yp) ∧ w1.cell? ⟨w.heap.size, 2, none⟩ = some (.string mp) ∧ w1.cell? ⟨w.heap.size, 3, none⟩ = some (.string dp) ∧ w1.cell? ⟨w3.heap.size, 0, none⟩ = some (.int .i64 kr) ∧ w1.cell? ⟨w3.heap.size, 1, none⟩ = some (.string yq) ∧ w1.cell? ⟨w3.heap.size, 2, none⟩ = some (.string mq) ∧ w1.cell? ⟨w3.heap.size, 3, none⟩ = some (.string dq) from ⟨(HB.out w1 (K3.out.trans (ka.trans k))).1, (HB.out w1 (K3.out.trans (ka.trans k))).2.1, (HB.out w1 (K3.out.trans (ka.trans k))).2.2.1, (HB.out w1 (K3.out.trans (ka.trans k))).2.2.2, cell_up k q0, cell_up k q1, cell_up k q2, cell_up k q3⟩)
  have K01 := Lib.hid (K00.out.trans (K3.out.trans ka))
  clear HB K00 hgq c0 c1 c2 c3 q0 q1 q2 q3
  have HB := HB2
  have K00 := K01
  clear HB2 K01
  have K4 := Lib.hid (Kp.refl w4)
  have Hw4 := Lib.hid hV
  clear hV ka
  go_wp2_with fail
  rw [← Hw4.out]
  obtain ⟨c0, c1, c2, c3, c4, c5, c6, c7⟩ := HB.out w4 (Kp.refl _)
  refine (RR.out _).mono ?_
  rintro e w5 ⟨rfl, kk⟩
  have K5 := Lib.hid ((show Kp w4 _ from (by first | with_reducible exact K4.out | with_reducible exact K4.out.trans (Kp.alloc _ _) | with_reducible exact (K4.out.trans (Kp.alloc _ _)).trans (Kp.alloc _ _) | with_reducible exact ((K4.out.trans (Kp.alloc _ _)).trans (Kp.alloc _ _)).trans (Kp.alloc _ _) | with_reducible exact K4.out.trans (Kp.drew _) | with_reducible exact K4.out.trans (Kp.drewN _ _))).trans kk)
  clear kk
  clear c0 c1 c2 c3 c4 c5 c6 c7
  obtain ⟨c0, c1, c2, c3, c4, c5, c6, c7⟩ := HB.out w5 K5.out
  obtain ⟨w6, hV⟩ : ∃ x, x = w5.alloc (.cells #[.int .i64 kr, .string yq, .string mq, .string dq] 23) := ⟨_, rfl⟩
  have ka : Kp w5 w6 := by rw [hV]; exact Kp.alloc _ _
  have hgq : w6.heap[w5.heap.size]? = some (.cells #[.int .i64 kr, .string yq, .string mq, .string dq] 23 (0, 0)) := by rw [hV]; exact heap_at _ _ _ rfl
  have q0 : w6.cell? ⟨w5.heap.size, 0, none⟩ = some (.int .i64 kr) := by simp [World.cell?, hgq]
  have q1 : w6.cell? ⟨w5.heap.size, 1, none⟩ = some (.string yq) := by simp [World.cell?, hgq]
  have q2 : w6.cell? ⟨w5.heap.size, 2, none⟩ = some (.string mq) := by simp [World.cell?, hgq]
  have q3 : w6.cell? ⟨w5.heap.size, 3, none⟩ = some (.string dq) := by simp [World.cell?, hgq]
  have HB2 := Lib.hid (fun w1 (k : Kp w6 w1) => show w1.cell? ⟨w.heap.size, 0, none⟩ = some (.int .i64 kp) ∧ w1.cell? ⟨w.heap.size, 1, none⟩ = some (.string yp) ∧ w1.cell? ⟨w.heap.size, 2, none⟩ = some (.string mp) ∧ w1.cell? ⟨w.heap.size, 3, none⟩ = some (.string dp) ∧ w1.cell? ⟨w3.heap.size, 0, none⟩ = some (.int .i64 kr) ∧ w1.cell? ⟨w3.heap.size, 1, none⟩ = some (.string yq) ∧ w1.cell? ⟨w3.heap.size, 2, none⟩ = some (.string mq) ∧ w1.cell? ⟨w3.heap.size, 3, none⟩ = some (.string dq) ∧ w1.cell? ⟨w5.heap.size, 0, none⟩ = some (.int .i64 kr) ∧ w1.cell? ⟨w5.heap.size, 1, none⟩ = some (.string yq) ∧ w1.cell? ⟨w5.heap.size, 2, none⟩ = some (.string mq) ∧ w1.cell? ⟨w5.heap.size, 3, none⟩ = some (.string dq) from ⟨(HB.out w1 (K5.out.trans (ka.trans k))).1, (HB.out w1 (K5.out.trans (ka.trans k))).2.1, (HB.out w1 (K5.out.trans (ka.trans k))).2.2.1, (HB.out w1 (K5.out.trans (ka.trans k))).2.2.2.1, (HB.out w1 (K5.out.trans (ka.trans k))).2.2.2.2.1, (HB.out w1 (K5.out.trans (ka.trans k))).2.2.2.2.2.1, (HB.out w1 (K5.out.trans (ka.trans k))).2.2.2.2.2.2.1, (HB.out w1 (K5.out.trans (ka.trans k))).2.2.2.2.2.2.2, cell_up k q0, cell_up k q1, cell_up k q2, cell_up k q3⟩)
  have K01 := Lib.hid (K00.out.trans (K5.out.trans ka))
  have lt1 := World.block_lt_of_cell? _ _ c0
  have ne1 := Nat.ne_of_lt lt1
  simp only at lt1 ne1
  clear HB K00 hgq  q0 q1 q2 q3
  have HB := HB2
  have K00 := K01
  clear HB2 K01
  have K6 := Lib.hid (Kp.refl w6)
  have Hw6 := Lib.hid hV
  clear hV ka
  go_wp2_with fail
  rw [← Hw6.out]
  clear c0 c1 c2 c3 c4 c5 c6 c7
  obtain ⟨c0, c1, c2, c3, c4, c5, c6, c7, c8, c9, c10, c11⟩ := HB.out w6 (Kp.refl _)
  refine (PS.out _ (K00.out.trans (by first | with_reducible exact K6.out | with_reducible exact K6.out.trans (Kp.alloc _ _) | with_reducible exact (K6.out.trans (Kp.alloc _ _)).trans (Kp.alloc _ _) | with_reducible exact ((K6.out.trans (Kp.alloc _ _)).trans (Kp.alloc _ _)).trans (Kp.alloc _ _) | with_reducible exact K6.out.trans (Kp.drew _) | with_reducible exact K6.out.trans (Kp.drewN _ _)))).mono ?_
  rintro e w7 ⟨v7, rfl, o7, kk⟩
  have K7 := Lib.hid ((show Kp w6 _ from (by first | with_reducible exact K6.out | with_reducible exact K6.out.trans (Kp.alloc _ _) | with_reducible exact (K6.out.trans (Kp.alloc _ _)).trans (Kp.alloc _ _) | with_reducible exact ((K6.out.trans (Kp.alloc _ _)).trans (Kp.alloc _ _)).trans (Kp.alloc _ _) | with_reducible exact K6.out.trans (Kp.drew _) | with_reducible exact K6.out.trans (Kp.drewN _ _))).trans kk)
  have R7 := Lib.hid (runsAt_own o7)
  obtain ⟨a7, b7, rfl⟩ := own_slice o7
  clear o7
  clear kk
  clear c0 c1 c2 c3 c4 c5 c6 c7 c8 c9 c10 c11
  obtain ⟨c0, c1, c2, c3, c4, c5, c6, c7, c8, c9, c10, c11⟩ := HB.out w7 K7.out
  have G7_7 := Lib.hid (Kp.refl w7)
  go_wp2_with fail
  refine (RS.out _).mono ?_
  rintro e w8 ⟨v8, rfl, o8, kk⟩
  have K8 := Lib.hid ((show Kp w6 _ from (by first | with_reducible exact K7.out | with_reducible exact K7.out.trans (Kp.alloc _ _) | with_reducible exact (K7.out.trans (Kp.alloc _ _)).trans (Kp.alloc _ _) | with_reducible exact ((K7.out.trans (Kp.alloc _ _)).trans (Kp.alloc _ _)).trans (Kp.alloc _ _) | with_reducible exact K7.out.trans (Kp.drew _) | with_reducible exact K7.out.trans (Kp.drewN _ _))).trans kk)
  have G7_8 := Lib.hid (G7_7.out.trans ((show Kp w7 _ from (by first | with_reducible exact Kp.refl _ | with_reducible exact Kp.alloc _ _ | with_reducible exact (Kp.alloc _ _).trans (Kp.alloc _ _) | with_reducible exact ((Kp.alloc _ _).trans (Kp.alloc _ _)).trans (Kp.alloc _ _) | with_reducible exact Kp.drew _ | with_reducible exact Kp.drewN _ _)).trans kk))
  have R8 := Lib.hid (runsAt_own o8)
  obtain ⟨a8, b8, rfl⟩ := own_slice o8
  clear o8
  clear kk
  clear c0 c1 c2 c3 c4 c5 c6 c7 c8 c9 c10 c11
  obtain ⟨c0, c1, c2, c3, c4, c5, c6, c7, c8, c9, c10, c11⟩ := HB.out w8 K8.out
  have G8_8 := Lib.hid (Kp.refl w8)
  go_wp2_with fail
  refine (PN.out _ (K00.out.trans (by first | with_reducible exact K8.out | with_reducible exact K8.out.trans (Kp.alloc _ _) | with_reducible exact (K8.out.trans (Kp.alloc _ _)).trans (Kp.alloc _ _) | with_reducible exact ((K8.out.trans (Kp.alloc _ _)).trans (Kp.alloc _ _)).trans (Kp.alloc _ _) | with_reducible exact K8.out.trans (Kp.drew _) | with_reducible exact K8.out.trans (Kp.drewN _ _)))).mono ?_
  rintro e w9 ⟨v9, rfl, o9, kk⟩
  have K9 := Lib.hid ((show Kp w6 _ from (by first | with_reducible exact K8.out | with_reducible exact K8.out.trans (Kp.alloc _ _) | with_reducible exact (K8.out.trans (Kp.alloc _ _)).trans (Kp.alloc _ _) | with_reducible exact ((K8.out.trans (Kp.alloc _ _)).trans (Kp.alloc _ _)).trans (Kp.alloc _ _) | with_reducible exact K8.out.trans (Kp.drew _) | with_reducible exact K8.out.trans (Kp.drewN _ _))).trans kk)
  have G7_9 := Lib.hid (G7_8.out.trans ((show Kp w8 _ from (by first | with_reducible exact Kp.refl _ | with_reducible exact Kp.alloc _ _ | with_reducible exact (Kp.alloc _ _).trans (Kp.alloc _ _) | with_reducible exact ((Kp.alloc _ _).trans (Kp.alloc _ _)).trans (Kp.alloc _ _) | with_reducible exact Kp.drew _ | with_reducible exact Kp.drewN _ _)).trans kk))
  have G8_9 := Lib.hid (G8_8.out.trans ((show Kp w8 _ from (by first | with_reducible exact Kp.refl _ | with_reducible exact Kp.alloc _ _ | with_reducible exact (Kp.alloc _ _).trans (Kp.alloc _ _) | with_reducible exact ((Kp.alloc _ _).trans (Kp.alloc _ _)).trans (Kp.alloc _ _) | with_reducible exact Kp.drew _ | with_reducible exact Kp.drewN _ _)).trans kk))
  have R9 := Lib.hid (runsAt_own o9)
  obtain ⟨a9, b9, rfl⟩ := own_slice o9
  clear o9
  clear kk
  clear c0 c1 c2 c3 c4 c5 c6 c7 c8 c9 c10 c11
  obtain ⟨c0, c1, c2, c3, c4, c5, c6, c7, c8, c9, c10, c11⟩ := HB.out w9 K9.out
  have G9_9 := Lib.hid (Kp.refl w9)
  go_wp2_with fail
  refine (RN.out _).mono ?_
  rintro e w10 ⟨v10, rfl, r10, kk⟩
  have K10 := Lib.hid ((show Kp w6 _ from (by first | with_reducible exact K9.out | with_reducible exact K9.out.trans (Kp.alloc _ _) | with_reducible exact (K9.out.trans (Kp.alloc _ _)).trans (Kp.alloc _ _) | with_reducible exact ((K9.out.trans (Kp.alloc _ _)).trans (Kp.alloc _ _)).trans (Kp.alloc _ _) | with_reducible exact K9.out.trans (Kp.drew _) | with_reducible exact K9.out.trans (Kp.drewN _ _))).trans kk)
  have G7_10 := Lib.hid (G7_9.out.trans ((show Kp w9 _ from (by first | with_reducible exact Kp.refl _ | with_reducible exact Kp.alloc _ _ | with_reducible exact (Kp.alloc _ _).trans (Kp.alloc _ _) | with_reducible exact ((Kp.alloc _ _).trans (Kp.alloc _ _)).trans (Kp.alloc _ _) | with_reducible exact Kp.drew _ | with_reducible exact Kp.drewN _ _)).trans kk))
  have G8_10 := Lib.hid (G8_9.out.trans ((show Kp w9 _ from (by first | with_reducible exact Kp.refl _ | with_reducible exact Kp.alloc _ _ | with_reducible exact (Kp.alloc _ _).trans (Kp.alloc _ _) | with_reducible exact ((Kp.alloc _ _).trans (Kp.alloc _ _)).trans (Kp.alloc _ _) | with_reducible exact Kp.drew _ | with_reducible exact Kp.drewN _ _)).trans kk))
  have G9_10 := Lib.hid (G9_9.out.trans ((show Kp w9 _ from (by first | with_reducible exact Kp.refl _ | with_reducible exact Kp.alloc _ _ | with_reducible exact (Kp.alloc _ _).trans (Kp.alloc _ _) | with_reducible exact ((Kp.alloc _ _).trans (Kp.alloc _ _)).trans (Kp.alloc _ _) | with_reducible exact Kp.drew _ | with_reducible exact Kp.drewN _ _)).trans kk))
  have R10 := Lib.hid r10
  obtain ⟨a10, b10, rfl⟩ := r10.slice
  clear r10
  clear kk
  clear c0 c1 c2 c3 c4 c5 c6 c7 c8 c9 c10 c11
  obtain ⟨c0, c1, c2, c3, c4, c5, c6, c7, c8, c9, c10, c11⟩ := HB.out w10 K10.out
  have G10_10 := Lib.hid (Kp.refl w10)
  go_wp2_with fail
  refine (SA.out _ _ _ (R7.out.kp (G7_10.out.trans (by first | with_reducible exact Kp.refl _ | with_reducible exact Kp.alloc _ _ | with_reducible exact (Kp.alloc _ _).trans (Kp.alloc _ _) | with_reducible exact ((Kp.alloc _ _).trans (Kp.alloc _ _)).trans (Kp.alloc _ _) | with_reducible exact Kp.drew _ | with_reducible exact Kp.drewN _ _))) (R8.out.kp (G8_10.out.trans (by first | with_reducible exact Kp.refl _ | with_reducible exact Kp.alloc _ _ | with_reducible exact (Kp.alloc _ _).trans (Kp.alloc _ _) | with_reducible exact ((Kp.alloc _ _).trans (Kp.alloc _ _)).trans (Kp.alloc _ _) | with_reducible exact Kp.drew _ | with_reducible exact Kp.drewN _ _)))).mono ?_
  rintro e w11 ⟨rfl, kk⟩
  have K11 := Lib.hid ((show Kp w6 _ from (by first | with_reducible exact K10.out | with_reducible exact K10.out.trans (Kp.alloc _ _) | with_reducible exact (K10.out.trans (Kp.alloc _ _)).trans (Kp.alloc _ _) | with_reducible exact ((K10.out.trans (Kp.alloc _ _)).trans (Kp.alloc _ _)).trans (Kp.alloc _ _) | with_reducible exact K10.out.trans (Kp.drew _) | with_reducible exact K10.out.trans (Kp.drewN _ _))).trans kk)
  have G7_11 := Lib.hid (G7_10.out.trans ((show Kp w10 _ from (by first | with_reducible exact Kp.refl _ | with_reducible exact Kp.alloc _ _ | with_reducible exact (Kp.alloc _ _).trans (Kp.alloc _ _) | with_reducible exact ((Kp.alloc _ _).trans (Kp.alloc _ _)).trans (Kp.alloc _ _) | with_reducible exact Kp.drew _ | with_reducible exact Kp.drewN _ _)).trans kk))
  have G8_11 := Lib.hid (G8_10.out.trans ((show Kp w10 _ from (by first | with_reducible exact Kp.refl _ | with_reducible exact Kp.alloc _ _ | with_reducible exact (Kp.alloc _ _).trans (Kp.alloc _ _) | with_reducible exact ((Kp.alloc _ _).trans (Kp.alloc _ _)).trans (Kp.alloc _ _) | with_reducible exact Kp.drew _ | with_reducible exact Kp.drewN _ _)).trans kk))
  have G9_11 := Lib.hid (G9_10.out.trans ((show Kp w10 _ from (by first | with_reducible exact Kp.refl _ | with_reducible exact Kp.alloc _ _ | with_reducible exact (Kp.alloc _ _).trans (Kp.alloc _ _) | with_reducible exact ((Kp.alloc _ _).trans (Kp.alloc _ _)).trans (Kp.alloc _ _) | with_reducible exact Kp.drew _ | with_reducible exact Kp.drewN _ _)).trans kk))
  have G10_11 := Lib.hid (G10_10.out.trans ((show Kp w10 _ from (by first | with_reducible exact Kp.refl _ | with_reducible exact Kp.alloc _ _ | with_reducible exact (Kp.alloc _ _).trans (Kp.alloc _ _) | with_reducible exact ((Kp.alloc _ _).trans (Kp.alloc _ _)).trans (Kp.alloc _ _) | with_reducible exact Kp.drew _ | with_reducible exact Kp.drewN _ _)).trans kk))
  clear kk
  clear c0 c1 c2 c3 c4 c5 c6 c7 c8 c9 c10 c11
  obtain ⟨c0, c1, c2, c3, c4, c5, c6, c7, c8, c9, c10, c11⟩ := HB.out w11 K11.out
  go_wp2_with fail
  refine (SB.out _ _ _ (R9.out.kp (G9_11.out.trans (by first | with_reducible exact Kp.refl _ | with_reducible exact Kp.alloc _ _ | with_reducible exact (Kp.alloc _ _).trans (Kp.alloc _ _) | with_reducible exact ((Kp.alloc _ _).trans (Kp.alloc _ _)).trans (Kp.alloc _ _) | with_reducible exact Kp.drew _ | with_reducible exact Kp.drewN _ _))) (R10.out.kp (G10_11.out.trans (by first | with_reducible exact Kp.refl _ | with_reducible exact Kp.alloc _ _ | with_reducible exact (Kp.alloc _ _).trans (Kp.alloc _ _) | with_reducible exact ((Kp.alloc _ _).trans (Kp.alloc _ _)).trans (Kp.alloc _ _) | with_reducible exact Kp.drew _ | with_reducible exact Kp.drewN _ _)))).mono ?_
  rintro e w12 ⟨rfl, kk⟩
  have K12 := Lib.hid ((show Kp w6 _ from (by first | with_reducible exact K11.out | with_reducible exact K11.out.trans (Kp.alloc _ _) | with_reducible exact (K11.out.trans (Kp.alloc _ _)).trans (Kp.alloc _ _) | with_reducible exact ((K11.out.trans (Kp.alloc _ _)).trans (Kp.alloc _ _)).trans (Kp.alloc _ _) | with_reducible exact K11.out.trans (Kp.drew _) | with_reducible exact K11.out.trans (Kp.drewN _ _))).trans kk)
  have G7_12 := Lib.hid (G7_11.out.trans ((show Kp w11 _ from (by first | with_reducible exact Kp.refl _ | with_reducible exact Kp.alloc _ _ | with_reducible exact (Kp.alloc _ _).trans (Kp.alloc _ _) | with_reducible exact ((Kp.alloc _ _).trans (Kp.alloc _ _)).trans (Kp.alloc _ _) | with_reducible exact Kp.drew _ | with_reducible exact Kp.drewN _ _)).trans kk))
  have G8_12 := Lib.hid (G8_11.out.trans ((show Kp w11 _ from (by first | with_reducible exact Kp.refl _ | with_reducible exact Kp.alloc _ _ | with_reducible exact (Kp.alloc _ _).trans (Kp.alloc _ _) | with_reducible exact ((Kp.alloc _ _).trans (Kp.alloc _ _)).trans (Kp.alloc _ _) | with_reducible exact Kp.drew _ | with_reducible exact Kp.drewN _ _)).trans kk))
  have G9_12 := Lib.hid (G9_11.out.trans ((show Kp w11 _ from (by first | with_reducible exact Kp.refl _ | with_reducible exact Kp.alloc _ _ | with_reducible exact (Kp.alloc _ _).trans (Kp.alloc _ _) | with_reducible exact ((Kp.alloc _ _).trans (Kp.alloc _ _)).trans (Kp.alloc _ _) | with_reducible exact Kp.drew _ | with_reducible exact Kp.drewN _ _)).trans kk))
  have G10_12 := Lib.hid (G10_11.out.trans ((show Kp w11 _ from (by first | with_reducible exact Kp.refl _ | with_reducible exact Kp.alloc _ _ | with_reducible exact (Kp.alloc _ _).trans (Kp.alloc _ _) | with_reducible exact ((Kp.alloc _ _).trans (Kp.alloc _ _)).trans (Kp.alloc _ _) | with_reducible exact Kp.drew _ | with_reducible exact Kp.drewN _ _)).trans kk))
  clear kk
  clear c0 c1 c2 c3 c4 c5 c6 c7 c8 c9 c10 c11
  obtain ⟨c0, c1, c2, c3, c4, c5, c6, c7, c8, c9, c10, c11⟩ := HB.out w12 K12.out
  have KS := Lib.hid (fun w' (kq : Kp w12 w') => show w'.cell? ⟨w.heap.size, 0, none⟩ = some (.int .i64 kp) ∧ w'.cell? ⟨w.heap.size, 1, none⟩ = some (.string yp) ∧ w'.cell? ⟨w.heap.size, 2, none⟩ = some (.string mp) ∧ w'.cell? ⟨w.heap.size, 3, none⟩ = some (.string dp) ∧ w'.cell? ⟨w3.heap.size, 0, none⟩ = some (.int .i64 kr) ∧ w'.cell? ⟨w3.heap.size, 1, none⟩ = some (.string yq) ∧ w'.cell? ⟨w3.heap.size, 2, none⟩ = some (.string mq) ∧ w'.cell? ⟨w3.heap.size, 3, none⟩ = some (.string dq) ∧ w'.cell? ⟨w5.heap.size, 0, none⟩ = some (.int .i64 kr) ∧ w'.cell? ⟨w5.heap.size, 1, none⟩ = some (.string yq) ∧ w'.cell? ⟨w5.heap.size, 2, none⟩ = some (.string mq) ∧ w'.cell? ⟨w5.heap.size, 3, none⟩ = some (.string dq) ∧ Kp w12 w' from ⟨(HB.out w' (K12.out.trans kq)).1, (HB.out w' (K12.out.trans kq)).2.1, (HB.out w' (K12.out.trans kq)).2.2.1, (HB.out w' (K12.out.trans kq)).2.2.2.1, (HB.out w' (K12.out.trans kq)).2.2.2.2.1, (HB.out w' (K12.out.trans kq)).2.2.2.2.2.1, (HB.out w' (K12.out.trans kq)).2.2.2.2.2.2.1, (HB.out w' (K12.out.trans kq)).2.2.2.2.2.2.2.1, (HB.out w' (K12.out.trans kq)).2.2.2.2.2.2.2.2.1, (HB.out w' (K12.out.trans kq)).2.2.2.2.2.2.2.2.2.1, (HB.out w' (K12.out.trans kq)).2.2.2.2.2.2.2.2.2.2.1, (HB.out w' (K12.out.trans kq)).2.2.2.2.2.2.2.2.2.2.2, kq⟩)
  go_wp2_with fail
  refine wp_region_held_drew (S := fun w' => w'.cell? ⟨w.heap.size, 0, none⟩ = some (.int .i64 kp) ∧ w'.cell? ⟨w.heap.size, 1, none⟩ = some (.string yp) ∧ w'.cell? ⟨w.heap.size, 2, none⟩ = some (.string mp) ∧ w'.cell? ⟨w.heap.size, 3, none⟩ = some (.string dp) ∧ w'.cell? ⟨w3.heap.size, 0, none⟩ = some (.int .i64 kr) ∧ w'.cell? ⟨w3.heap.size, 1, none⟩ = some (.string yq) ∧ w'.cell? ⟨w3.heap.size, 2, none⟩ = some (.string mq) ∧ w'.cell? ⟨w3.heap.size, 3, none⟩ = some (.string dq) ∧ w'.cell? ⟨w5.heap.size, 0, none⟩ = some (.int .i64 kr) ∧ w'.cell? ⟨w5.heap.size, 1, none⟩ = some (.string yq) ∧ w'.cell? ⟨w5.heap.size, 2, none⟩ = some (.string mq) ∧ w'.cell? ⟨w5.heap.size, 3, none⟩ = some (.string dq) ∧ Kp w12 w') (by kernel_rfl) ?_ (fun hHeld0 => ?_)
  · (try dsimp only); exact KS.out _ (by first | assumption | exact Kp.drew _)
  refine tkV (v := ?_) 0 piR0 ?_ ?_
  rotate_left
  · intro w hSw; (try dsimp only at hSw); go_simp; (try with_reducible rfl)
  (try simp only [Act.put, piR0, xA, xB, xC])
  refine tkV (v := ?_) 1 piR1 ?_ ?_
  rotate_left
  · intro w hSw; (try dsimp only at hSw); go_simp; (try with_reducible rfl)
  (try simp only [Act.put, piR1, xA, xB, xC])
  refine tkV (v := ?_) 2 piR2 ?_ ?_
  rotate_left
  · intro w hSw; (try dsimp only at hSw); go_simp; (try with_reducible rfl)
  (try simp only [Act.put, piR2, xA, xB, xC])
  refine tkV (v := ?_) 4 piR4 ?_ ?_
  rotate_left
  · intro w hSw; (try dsimp only at hSw); go_simp; (try with_reducible rfl)
  (try simp only [Act.put, piR4, xA, xB, xC])
  refine tkE 3 piR3 rfl (by kernel_rfl) (fun K hK => ?_)
  go_simp
  (refine (SP.out _ (K00.out.trans (K12.out.trans (by first | assumption | exact Kp.drew _)))).mono ?_; rintro e w' ⟨rfl, k1⟩; have k2 := Kp.trans (show Kp w12 _ from (by first | assumption | exact Kp.drew _)) k1; clear k1)
  (try go_wp2_with fail)
  refine hK.out _ _ ?_ (fun hHeld1 => ?_)
  · (try dsimp only); exact KS.out _ (by first | assumption | exact Kp.drew _)
  clear hK K hHeld0
  (try simp only [Act.put, piR3, xA, xB, xC])
  refine tkE 5 piR5 rfl (by kernel_rfl) (fun K hK => ?_)
  go_simp
  (refine (SR.out _).mono ?_; rintro e w' ⟨rfl, k1⟩; have k2 := Kp.trans (show Kp w12 _ from (by first | assumption | exact Kp.drew _)) k1; clear k1)
  (try go_wp2_with fail)
  refine hK.out _ _ ?_ (fun hHeld2 => ?_)
  · (try dsimp only); exact KS.out _ (by first | assumption | exact Kp.drew _)
  clear hK K hHeld1
  (try simp only [Act.put, piR5, xA, xB, xC])
  refine tkV (v := ?_) 6 piR6 ?_ ?_
  rotate_left
  · intro w hSw; (try dsimp only at hSw); go_simp; (try with_reducible rfl)
  (try simp only [Act.put, piR6, xA, xB, xC])
  refine tkV (v := ?_) 7 piR7 ?_ ?_
  rotate_left
  · intro w hSw; (try dsimp only at hSw); go_simp; (try with_reducible rfl)
  (try simp only [Act.put, piR7, xA, xB, xC])
  refine tkV (v := ?_) 8 piR8 ?_ ?_
  rotate_left
  · intro w hSw; (try dsimp only at hSw); go_simp; (try with_reducible rfl)
  (try simp only [Act.put, piR8, xA, xB, xC])
  refine tkV (v := ?_) 9 piR9 ?_ ?_
  rotate_left
  · intro w hSw; (try dsimp only at hSw); go_simp; (try with_reducible rfl)
  (try simp only [Act.put, piR9, xA, xB, xC])
  refine tkV (v := ?_) 11 piR11 ?_ ?_
  rotate_left
  · intro w hSw; (try dsimp only at hSw); go_simp; (try with_reducible rfl)
  (try simp only [Act.put, piR11, xA, xB, xC])
  refine tkE 10 piR10 rfl (by kernel_rfl) (fun K hK => ?_)
  go_simp
  (refine (TP.out _ (K00.out.trans (K12.out.trans (by first | assumption | exact Kp.drew _)))).mono ?_; rintro e w' ⟨rfl, k1⟩; have k2 := Kp.trans (show Kp w12 _ from (by first | assumption | exact Kp.drew _)) k1; clear k1)
  (try go_wp2_with fail)
  refine hK.out _ _ ?_ (fun hHeld3 => ?_)
  · (try dsimp only); exact KS.out _ (by first | assumption | exact Kp.drew _)
  clear hK K hHeld2
  (try simp only [Act.put, piR10, xA, xB, xC])
  refine tkE 12 piR12 rfl (by kernel_rfl) (fun K hK => ?_)
  go_simp
  (refine (TR.out _).mono ?_; rintro e w' ⟨rfl, k1⟩; have k2 := Kp.trans (show Kp w12 _ from (by first | assumption | exact Kp.drew _)) k1; clear k1)
  (try go_wp2_with fail)
  refine hK.out _ _ ?_ (fun hHeld4 => ?_)
  · (try dsimp only); exact KS.out _ (by first | assumption | exact Kp.drew _)
  clear hK K hHeld3
  (try simp only [Act.put, piR12, xA, xB, xC])
  refine tkV (v := ?_) 13 piR13 ?_ ?_
  rotate_left
  · intro w hSw; (try dsimp only at hSw); go_simp; (try with_reducible rfl)
  (try simp only [Act.put, piR13, xA, xB, xC])
  refine tkV (v := ?_) 14 piR14 ?_ ?_
  rotate_left
  · intro w hSw; (try dsimp only at hSw); go_simp; (try with_reducible rfl)
  (try simp only [Act.put, piR14, xA, xB, xC])
  refine tkV (v := ?_) 15 piR15 ?_ ?_
  rotate_left
  · intro w hSw; (try dsimp only at hSw); go_simp; (try with_reducible rfl)
  (try simp only [Act.put, piR15, xA, xB, xC])
  refine tkV (v := ?_) 16 piR16 ?_ ?_
  rotate_left
  · intro w hSw; (try dsimp only at hSw); go_simp; (try with_reducible rfl)
  (try simp only [Act.put, piR16, xA, xB, xC])
  refine tkV (v := ?_) 18 piR18 ?_ ?_
  rotate_left
  · intro w hSw; (try dsimp only at hSw); go_simp; (try with_reducible rfl)
  (try simp only [Act.put, piR18, xA, xB, xC])
  refine tkE 17 piR17 rfl (by kernel_rfl) (fun K hK => ?_)
  go_simp
  (refine (DP.out _ (K00.out.trans (K12.out.trans (by first | assumption | exact Kp.drew _)))).mono ?_; rintro e w' ⟨rfl, k1⟩; have k2 := Kp.trans (show Kp w12 _ from (by first | assumption | exact Kp.drew _)) k1; clear k1)
  (try go_wp2_with fail)
  refine hK.out _ _ ?_ (fun hHeld5 => ?_)
  · (try dsimp only); exact KS.out _ (by first | assumption | exact Kp.drew _)
  clear hK K hHeld4
  (try simp only [Act.put, piR17, xA, xB, xC])
  refine tkE 19 piR19 rfl (by kernel_rfl) (fun K hK => ?_)
  go_simp
  (refine (DR.out _).mono ?_; rintro e w' ⟨rfl, k1⟩; have k2 := Kp.trans (show Kp w12 _ from (by first | assumption | exact Kp.drew _)) k1; clear k1)
  (try go_wp2_with fail)
  refine hK.out _ _ ?_ (fun hHeld6 => ?_)
  · (try dsimp only); exact KS.out _ (by first | assumption | exact Kp.drew _)
  clear hK K hHeld5
  (try simp only [Act.put, piR19, xA, xB, xC])
  refine tkV (v := ?_) 20 piR20 ?_ ?_
  rotate_left
  · intro w hSw; (try dsimp only at hSw); go_simp; (try with_reducible rfl)
  (try simp only [Act.put, piR20, xA, xB, xC])
  refine tkV (v := ?_) 21 piR21 ?_ ?_
  rotate_left
  · intro w hSw; (try dsimp only at hSw); go_simp; (try with_reducible rfl)
  (try simp only [Act.put, piR21, xA, xB, xC])
  refine tkV (v := ?_) 22 piR22 ?_ ?_
  rotate_left
  · intro w hSw; (try dsimp only at hSw); go_simp; (try with_reducible rfl)
  (try simp only [Act.put, piR22, xA, xB, xC])
  refine wpAnyH_done (by kernel_rfl) ?_ _
  go_wp2
  go_ret
  exact ⟨rfl, K00.out.trans (K12.out.trans k2)⟩
theorem pointIs_walk (p : PT) (t : ByteArray) (kind : Int) (w : World) (h1 : -9223372036854775808 ≤ p.k) (h2 : p.k ≤ 9223372036854775807) (h3 : -9223372036854775808 ≤ kind) (h4 : kind ≤ 9223372036854775807) (T : Tabs8 w) :
    Calls Tryz.prog 3 #[ptV p, .string t, .int .i64 kind] w fun e w' => e = .returned (.bool true) ∧ Kp w w' := by
  by_cases hs : shortP p = true → ¬ (t.size : Int) ≤ 40
  · exact pis_0 p t kind w h1 h2 h3 h4 T hs
  · have a : shortP p = true := by
      rcases Bool.eq_false_or_eq_true (shortP p) with e | e
      · exact e
      · exact absurd (fun h => by rw [e] at h; cases h) hs
    have b : (t.size : Int) ≤ 40 := by
      by_cases c : (t.size : Int) ≤ 40
      · exact c
      · exact absurd (fun _ => c) hs
    exact pis_1 p t kind w h1 h2 h3 h4 T a b
end Go.Proofs.YtinpglfclbnhlaaGreatDoor
