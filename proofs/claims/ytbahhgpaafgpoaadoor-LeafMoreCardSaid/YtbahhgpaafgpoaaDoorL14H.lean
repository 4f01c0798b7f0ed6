/-
  Layer 14: the walk of LeafMore, of units.
-/
import Derived.Test.YtbahhgpaafgpoaaDoorL14G
namespace Go.Proofs.YtbahhgpaafgpoaaDoor
open Go.RowKit
set_option linter.unusedVariables false
set_option linter.unusedSimpArgs false
abbrev mC0 : Oper := { dst := some 49, op := Go.Op.fieldAddr 24 (Go.Operand.tmp 3) 0, type := 0, pos := "more.go:16", after := #[], guard := none }
abbrev mC1 : Oper := { dst := some 50, op := Go.Op.load 4 (Go.Operand.tmp 49), type := 4, pos := "more.go:16", after := #[{ on := 0, ground := Go.Ground.data }], guard := none }
abbrev mC2 : Oper := { dst := some 51, op := Go.Op.fieldAddr 24 (Go.Operand.tmp 3) 1, type := 0, pos := "more.go:16", after := #[], guard := none }
abbrev mC3 : Oper := { dst := some 52, op := Go.Op.load 3 (Go.Operand.tmp 51), type := 3, pos := "more.go:16", after := #[{ on := 2, ground := Go.Ground.data }], guard := none }
abbrev mC4 : Oper := { dst := some 53, op := Go.Op.fieldAddr 24 (Go.Operand.tmp 3) 2, type := 0, pos := "more.go:16", after := #[], guard := none }
abbrev mC5 : Oper := { dst := some 54, op := Go.Op.load 22 (Go.Operand.tmp 53), type := 22, pos := "more.go:16", after := #[{ on := 4, ground := Go.Ground.data }], guard := none }
abbrev mC6 : Oper := { dst := some 55, op := Go.Op.fieldAddr 24 (Go.Operand.tmp 4) 2, type := 0, pos := "more.go:16", after := #[], guard := none }
abbrev mC7 : Oper := { dst := some 56, op := Go.Op.load 22 (Go.Operand.tmp 55), type := 22, pos := "more.go:16", after := #[{ on := 6, ground := Go.Ground.data }], guard := none }
abbrev mC8 : Oper := { dst := some 57, op := Go.Op.call { callee := Go.Callee.value (Go.Operand.func 21), args := #[Go.Operand.tmp 54, Go.Operand.tmp 56], argTypes := #[22, 22] }, type := 22, pos := "more.go:16", after := #[{ on := 5, ground := Go.Ground.data }, { on := 7, ground := Go.Ground.data }], guard := none }
abbrev mC9 : Oper := { dst := some 58, op := Go.Op.fieldAddr 24 (Go.Operand.tmp 3) 3, type := 0, pos := "more.go:16", after := #[], guard := none }
abbrev mC10 : Oper := { dst := some 59, op := Go.Op.load 22 (Go.Operand.tmp 58), type := 22, pos := "more.go:16", after := #[{ on := 9, ground := Go.Ground.data }], guard := none }
abbrev mC11 : Oper := { dst := some 60, op := Go.Op.build 24 #[(0, Go.Operand.tmp 50), (1, Go.Operand.tmp 52), (2, Go.Operand.tmp 57), (3, Go.Operand.tmp 59)], type := 24, pos := "more.go:16", after := #[{ on := 1, ground := Go.Ground.data }, { on := 3, ground := Go.Ground.data }, { on := 8, ground := Go.Ground.data }, { on := 10, ground := Go.Ground.data }], guard := none }
abbrev mC12 : Oper := { dst := some 8, op := Go.Op.alloc 24, type := 0, pos := "more.go:16", after := #[], guard := none }
abbrev mC13 : Oper := { dst := none, op := Go.Op.store 24 (Go.Operand.tmp 8) (Go.Operand.tmp 60), type := 0, pos := "more.go:16", after := #[{ on := 12, ground := Go.Ground.data }, { on := 11, ground := Go.Ground.data }, { on := 8, ground := Go.Ground.chain }, { on := 0, ground := Go.Ground.phase }, { on := 1, ground := Go.Ground.phase }, { on := 2, ground := Go.Ground.phase }, { on := 3, ground := Go.Ground.phase }, { on := 4, ground := Go.Ground.phase }, { on := 5, ground := Go.Ground.phase }, { on := 6, ground := Go.Ground.phase }, { on := 7, ground := Go.Ground.phase }, { on := 8, ground := Go.Ground.phase }, { on := 9, ground := Go.Ground.phase }, { on := 10, ground := Go.Ground.phase }, { on := 11, ground := Go.Ground.phase }, { on := 12, ground := Go.Ground.phase }], guard := none }
abbrev mD0 : Oper := { dst := some 70, op := Go.Op.move (Go.Operand.tmp 7), type := 4, pos := "more.go:18", after := #[], guard := none }
abbrev mD1 : Oper := { dst := some 71, op := Go.Op.move (Go.Operand.tmp 70), type := 4, pos := "more.go:18", after := #[{ on := 0, ground := Go.Ground.data }], guard := none }
abbrev mD2 : Oper := { dst := some 72, op := Go.Op.load 24 (Go.Operand.tmp 8), type := 24, pos := "more.go:18", after := #[{ on := 1, ground := Go.Ground.guard }], guard := some (1, true) }
abbrev mD3 : Oper := { dst := some 73, op := Go.Op.call { callee := Go.Callee.value (Go.Operand.func 16), args := #[Go.Operand.tmp 72], argTypes := #[24] }, type := 4, pos := "more.go:18", after := #[{ on := 2, ground := Go.Ground.data }, { on := 1, ground := Go.Ground.chain }, { on := 1, ground := Go.Ground.guard }], guard := some (1, true) }
abbrev mD4 : Oper := { dst := some 74, op := Go.Op.pick (Go.Operand.tmp 71) (Go.Operand.tmp 73) (Go.Operand.const (Go.Value.bool false)), type := 4, pos := "more.go:18", after := #[{ on := 1, ground := Go.Ground.data }, { on := 3, ground := Go.Ground.data }], guard := none }
abbrev mD5 : Oper := { dst := some 75, op := Go.Op.move (Go.Operand.tmp 74), type := 4, pos := "more.go:18", after := #[{ on := 4, ground := Go.Ground.data }, { on := 3, ground := Go.Ground.chain }], guard := none }
abbrev mD6 : Oper := { dst := some 76, op := Go.Op.load 24 (Go.Operand.tmp 8), type := 24, pos := "more.go:18", after := #[{ on := 5, ground := Go.Ground.guard }], guard := some (5, true) }
abbrev mD7 : Oper := { dst := some 77, op := Go.Op.load 26 (Go.Operand.tmp 5), type := 26, pos := "more.go:18", after := #[{ on := 5, ground := Go.Ground.guard }], guard := some (5, true) }
abbrev mD8 : Oper := { dst := some 78, op := Go.Op.call { callee := Go.Callee.value (Go.Operand.func 12), args := #[Go.Operand.tmp 76, Go.Operand.tmp 77], argTypes := #[24, 26] }, type := 4, pos := "more.go:18", after := #[{ on := 6, ground := Go.Ground.data }, { on := 7, ground := Go.Ground.data }, { on := 5, ground := Go.Ground.chain }, { on := 5, ground := Go.Ground.guard }], guard := some (5, true) }
abbrev mD9 : Oper := { dst := some 79, op := Go.Op.load 24 (Go.Operand.tmp 3), type := 24, pos := "more.go:18", after := #[{ on := 5, ground := Go.Ground.guard }], guard := some (5, true) }
abbrev mD10 : Oper := { dst := some 80, op := Go.Op.load 26 (Go.Operand.tmp 5), type := 26, pos := "more.go:18", after := #[{ on := 5, ground := Go.Ground.guard }], guard := some (5, true) }
abbrev mD11 : Oper := { dst := some 81, op := Go.Op.call { callee := Go.Callee.value (Go.Operand.func 12), args := #[Go.Operand.tmp 79, Go.Operand.tmp 80], argTypes := #[24, 26] }, type := 4, pos := "more.go:18", after := #[{ on := 9, ground := Go.Ground.data }, { on := 10, ground := Go.Ground.data }, { on := 8, ground := Go.Ground.chain }, { on := 5, ground := Go.Ground.guard }], guard := some (5, true) }
abbrev mD12 : Oper := { dst := some 82, op := Go.Op.move (Go.Operand.tmp 81), type := 4, pos := "more.go:18", after := #[{ on := 11, ground := Go.Ground.data }, { on := 11, ground := Go.Ground.chain }, { on := 5, ground := Go.Ground.guard }], guard := some (5, true) }
abbrev mD13 : Oper := { dst := some 83, op := Go.Op.load 24 (Go.Operand.tmp 9), type := 24, pos := "more.go:18", after := #[{ on := 12, ground := Go.Ground.guard }], guard := some (12, false) }
abbrev mD14 : Oper := { dst := some 84, op := Go.Op.load 26 (Go.Operand.tmp 5), type := 26, pos := "more.go:18", after := #[{ on := 12, ground := Go.Ground.guard }], guard := some (12, false) }
abbrev mD15 : Oper := { dst := some 85, op := Go.Op.call { callee := Go.Callee.value (Go.Operand.func 12), args := #[Go.Operand.tmp 83, Go.Operand.tmp 84], argTypes := #[24, 26] }, type := 4, pos := "more.go:18", after := #[{ on := 13, ground := Go.Ground.data }, { on := 14, ground := Go.Ground.data }, { on := 12, ground := Go.Ground.chain }, { on := 12, ground := Go.Ground.guard }], guard := some (12, false) }
abbrev mD16 : Oper := { dst := some 86, op := Go.Op.pick (Go.Operand.tmp 82) (Go.Operand.const (Go.Value.bool true)) (Go.Operand.tmp 85), type := 4, pos := "more.go:18", after := #[{ on := 12, ground := Go.Ground.data }, { on := 15, ground := Go.Ground.data }, { on := 5, ground := Go.Ground.guard }], guard := some (5, true) }
abbrev mD17 : Oper := { dst := some 87, op := Go.Op.binOp Go.BinOp.eql 4 (Go.Operand.tmp 78) (Go.Operand.tmp 86) 4, type := 4, pos := "more.go:18", after := #[{ on := 8, ground := Go.Ground.data }, { on := 16, ground := Go.Ground.data }, { on := 5, ground := Go.Ground.guard }], guard := some (5, true) }
abbrev mD18 : Oper := { dst := some 88, op := Go.Op.pick (Go.Operand.tmp 75) (Go.Operand.tmp 87) (Go.Operand.const (Go.Value.bool false)), type := 4, pos := "more.go:18", after := #[{ on := 5, ground := Go.Ground.data }, { on := 17, ground := Go.Ground.data }], guard := none }
abbrev mD19 : Oper := { dst := some 89, op := Go.Op.move (Go.Operand.tmp 88), type := 4, pos := "more.go:18", after := #[{ on := 18, ground := Go.Ground.data }, { on := 15, ground := Go.Ground.chain }], guard := none }
abbrev mD20 : Oper := { dst := some 90, op := Go.Op.load 24 (Go.Operand.tmp 8), type := 24, pos := "more.go:18", after := #[{ on := 19, ground := Go.Ground.guard }], guard := some (19, true) }
abbrev mD21 : Oper := { dst := some 91, op := Go.Op.call { callee := Go.Callee.value (Go.Operand.func 14), args := #[Go.Operand.tmp 90], argTypes := #[24] }, type := 4, pos := "more.go:18", after := #[{ on := 20, ground := Go.Ground.data }, { on := 19, ground := Go.Ground.chain }, { on := 19, ground := Go.Ground.guard }], guard := some (19, true) }
abbrev mD22 : Oper := { dst := some 92, op := Go.Op.load 24 (Go.Operand.tmp 3), type := 24, pos := "more.go:18", after := #[{ on := 19, ground := Go.Ground.guard }], guard := some (19, true) }
abbrev mD23 : Oper := { dst := some 93, op := Go.Op.call { callee := Go.Callee.value (Go.Operand.func 14), args := #[Go.Operand.tmp 92], argTypes := #[24] }, type := 4, pos := "more.go:18", after := #[{ on := 22, ground := Go.Ground.data }, { on := 21, ground := Go.Ground.chain }, { on := 19, ground := Go.Ground.guard }], guard := some (19, true) }
abbrev mD24 : Oper := { dst := some 94, op := Go.Op.move (Go.Operand.tmp 93), type := 4, pos := "more.go:18", after := #[{ on := 23, ground := Go.Ground.data }, { on := 23, ground := Go.Ground.chain }, { on := 19, ground := Go.Ground.guard }], guard := some (19, true) }
abbrev mD25 : Oper := { dst := some 95, op := Go.Op.load 24 (Go.Operand.tmp 9), type := 24, pos := "more.go:18", after := #[{ on := 24, ground := Go.Ground.guard }], guard := some (24, true) }
abbrev mD26 : Oper := { dst := some 96, op := Go.Op.call { callee := Go.Callee.value (Go.Operand.func 14), args := #[Go.Operand.tmp 95], argTypes := #[24] }, type := 4, pos := "more.go:18", after := #[{ on := 25, ground := Go.Ground.data }, { on := 24, ground := Go.Ground.chain }, { on := 24, ground := Go.Ground.guard }], guard := some (24, true) }
abbrev mD27 : Oper := { dst := some 97, op := Go.Op.pick (Go.Operand.tmp 94) (Go.Operand.tmp 96) (Go.Operand.const (Go.Value.bool false)), type := 4, pos := "more.go:18", after := #[{ on := 24, ground := Go.Ground.data }, { on := 26, ground := Go.Ground.data }, { on := 19, ground := Go.Ground.guard }], guard := some (19, true) }
abbrev mD28 : Oper := { dst := some 98, op := Go.Op.binOp Go.BinOp.eql 4 (Go.Operand.tmp 91) (Go.Operand.tmp 97) 4, type := 4, pos := "more.go:18", after := #[{ on := 21, ground := Go.Ground.data }, { on := 27, ground := Go.Ground.data }, { on := 19, ground := Go.Ground.guard }], guard := some (19, true) }
abbrev mD29 : Oper := { dst := some 99, op := Go.Op.pick (Go.Operand.tmp 89) (Go.Operand.tmp 98) (Go.Operand.const (Go.Value.bool false)), type := 4, pos := "more.go:18", after := #[{ on := 19, ground := Go.Ground.data }, { on := 28, ground := Go.Ground.data }], guard := none }
abbrev mD30 : Oper := { dst := some 100, op := Go.Op.move (Go.Operand.tmp 99), type := 4, pos := "more.go:18", after := #[{ on := 29, ground := Go.Ground.data }, { on := 26, ground := Go.Ground.chain }], guard := none }
abbrev mD31 : Oper := { dst := some 101, op := Go.Op.load 24 (Go.Operand.tmp 3), type := 24, pos := "more.go:18", after := #[{ on := 30, ground := Go.Ground.guard }], guard := some (30, true) }
abbrev mD32 : Oper := { dst := some 102, op := Go.Op.fieldAddr 26 (Go.Operand.tmp 5) 0, type := 0, pos := "more.go:18", after := #[{ on := 30, ground := Go.Ground.guard }], guard := some (30, true) }
abbrev mD33 : Oper := { dst := some 103, op := Go.Op.load 3 (Go.Operand.tmp 102), type := 3, pos := "more.go:18", after := #[{ on := 32, ground := Go.Ground.data }, { on := 30, ground := Go.Ground.guard }], guard := some (30, true) }
abbrev mD34 : Oper := { dst := some 104, op := Go.Op.call { callee := Go.Callee.value (Go.Operand.func 22), args := #[Go.Operand.tmp 101, Go.Operand.tmp 103], argTypes := #[24, 3] }, type := 4, pos := "more.go:18", after := #[{ on := 31, ground := Go.Ground.data }, { on := 33, ground := Go.Ground.data }, { on := 30, ground := Go.Ground.chain }, { on := 30, ground := Go.Ground.guard }], guard := some (30, true) }
abbrev mD35 : Oper := { dst := some 105, op := Go.Op.unOp Go.UnOp.not 4 (Go.Operand.tmp 104), type := 4, pos := "more.go:18", after := #[{ on := 34, ground := Go.Ground.data }, { on := 30, ground := Go.Ground.guard }], guard := some (30, true) }
abbrev mD36 : Oper := { dst := some 106, op := Go.Op.move (Go.Operand.tmp 105), type := 4, pos := "more.go:18", after := #[{ on := 35, ground := Go.Ground.data }, { on := 34, ground := Go.Ground.chain }, { on := 30, ground := Go.Ground.guard }], guard := some (30, true) }
abbrev mD37 : Oper := { dst := some 107, op := Go.Op.load 24 (Go.Operand.tmp 8), type := 24, pos := "more.go:18", after := #[{ on := 36, ground := Go.Ground.guard }], guard := some (36, false) }
abbrev mD38 : Oper := { dst := some 108, op := Go.Op.fieldAddr 26 (Go.Operand.tmp 5) 0, type := 0, pos := "more.go:18", after := #[{ on := 36, ground := Go.Ground.guard }], guard := some (36, false) }
abbrev mD39 : Oper := { dst := some 109, op := Go.Op.load 3 (Go.Operand.tmp 108), type := 3, pos := "more.go:18", after := #[{ on := 38, ground := Go.Ground.data }, { on := 36, ground := Go.Ground.guard }], guard := some (36, false) }
abbrev mD40 : Oper := { dst := some 110, op := Go.Op.call { callee := Go.Callee.value (Go.Operand.func 22), args := #[Go.Operand.tmp 107, Go.Operand.tmp 109], argTypes := #[24, 3] }, type := 4, pos := "more.go:18", after := #[{ on := 37, ground := Go.Ground.data }, { on := 39, ground := Go.Ground.data }, { on := 36, ground := Go.Ground.chain }, { on := 36, ground := Go.Ground.guard }], guard := some (36, false) }
abbrev mD41 : Oper := { dst := some 111, op := Go.Op.pick (Go.Operand.tmp 106) (Go.Operand.const (Go.Value.bool true)) (Go.Operand.tmp 110), type := 4, pos := "more.go:18", after := #[{ on := 36, ground := Go.Ground.data }, { on := 40, ground := Go.Ground.data }, { on := 30, ground := Go.Ground.guard }], guard := some (30, true) }
abbrev mD42 : Oper := { dst := some 112, op := Go.Op.pick (Go.Operand.tmp 100) (Go.Operand.tmp 111) (Go.Operand.const (Go.Value.bool false)), type := 4, pos := "more.go:18", after := #[{ on := 30, ground := Go.Ground.data }, { on := 41, ground := Go.Ground.data }], guard := none }
abbrev mD43 : Oper := { dst := some 6, op := Go.Op.assign (Go.Operand.tmp 112), type := 4, pos := "more.go:18", after := #[{ on := 42, ground := Go.Ground.data }, { on := 40, ground := Go.Ground.chain }, { on := 0, ground := Go.Ground.phase }, { on := 1, ground := Go.Ground.phase }, { on := 2, ground := Go.Ground.phase }, { on := 3, ground := Go.Ground.phase }, { on := 4, ground := Go.Ground.phase }, { on := 5, ground := Go.Ground.phase }, { on := 6, ground := Go.Ground.phase }, { on := 7, ground := Go.Ground.phase }, { on := 8, ground := Go.Ground.phase }, { on := 9, ground := Go.Ground.phase }, { on := 10, ground := Go.Ground.phase }, { on := 11, ground := Go.Ground.phase }, { on := 12, ground := Go.Ground.phase }, { on := 13, ground := Go.Ground.phase }, { on := 14, ground := Go.Ground.phase }, { on := 15, ground := Go.Ground.phase }, { on := 16, ground := Go.Ground.phase }, { on := 17, ground := Go.Ground.phase }, { on := 18, ground := Go.Ground.phase }, { on := 19, ground := Go.Ground.phase }, { on := 20, ground := Go.Ground.phase }, { on := 21, ground := Go.Ground.phase }, { on := 22, ground := Go.Ground.phase }, { on := 23, ground := Go.Ground.phase }, { on := 24, ground := Go.Ground.phase }, { on := 25, ground := Go.Ground.phase }, { on := 26, ground := Go.Ground.phase }, { on := 27, ground := Go.Ground.phase }, { on := 28, ground := Go.Ground.phase }, { on := 29, ground := Go.Ground.phase }, { on := 30, ground := Go.Ground.phase }, { on := 31, ground := Go.Ground.phase }, { on := 32, ground := Go.Ground.phase }, { on := 33, ground := Go.Ground.phase }, { on := 34, ground := Go.Ground.phase }, { on := 35, ground := Go.Ground.phase }, { on := 36, ground := Go.Ground.phase }, { on := 37, ground := Go.Ground.phase }, { on := 38, ground := Go.Ground.phase }, { on := 39, ground := Go.Ground.phase }, { on := 40, ground := Go.Ground.phase }, { on := 41, ground := Go.Ground.phase }, { on := 42, ground := Go.Ground.phase }], guard := none }
set_option maxHeartbeats 16000000 in
set_option maxRecDepth 100000 in
theorem more_main_false (f : LF) (vaf vbf : Value) (g : LF) (vag vbg : Value) (pS pE : Int) (w : World) (raf : RunsAt w vaf f.a) (rbf : RunsAt w vbf f.b) (iaf : I64R f.a) (ibf : I64R f.b) (rag : RunsAt w vag g.a) (rbg : RunsAt w vbg g.b) (iag : I64R g.a) (ibg : I64R g.b) (hp1 : -9223372036854775808 ≤ pS) (hp2 : pS ≤ 9223372036854775807) (hp3 : -9223372036854775808 ≤ pE) (hp4 : pE ≤ 9223372036854775807) (T : Tabs w) (hf : fewB f = true) (hg : fewB g = true) (hsf : leafB f = true) (hsg : leafB g = true) (hs : f.sp = g.sp) (hu : f.sp = false → f.u = g.u) (hsp : f.sp = false) :
    Calls Tryd.prog 5 #[leafV f vaf vbf, leafV g vag vbg, .agg #[.int .i64 pS, .int .i64 pE]] w fun e w' => e = .returned (.bool true) ∧ Kp w w' := by
  have FF := Lib.hid (fun w1 (kk : Kp w w1) => few_any f vaf vbf w1 (raf.kp kk) (rbf.kp kk))
  have FG := Lib.hid (fun w1 (kk : Kp w w1) => few_any g vag vbg w1 (rag.kp kk) (rbg.kp kk))
  rw [hf] at FF
  rw [hg] at FG
  obtain ⟨n1, n2⟩ := fewB_yes hf
  obtain ⟨n3, n4⟩ := fewB_yes hg
  have SF := Lib.hid (fun w1 (kk : Kp w w1) => leafSane_any f vaf vbf w1 (raf.kp kk) (rbf.kp kk) iaf ibf (by omega) (by omega) (T.kp kk).2)
  have SG := Lib.hid (fun w1 (kk : Kp w w1) => leafSane_any g vag vbg w1 (rag.kp kk) (rbg.kp kk) iag ibg (by omega) (by omega) (T.kp kk).2)
  rw [hsf] at SF
  rw [hsg] at SG
  have MO := more_ok hsf hsg hs hu
  have LN := nf_two_len f.a g.a
  have OF : LeafOk w f vaf vbf := ⟨raf, rbf, iaf, ibf, by omega, by omega⟩
  have OX : ∀ w1, Kp w w1 → LeafOk w1 (sideL f g) vag vbf := fun w1 kk => ⟨rag.kp kk, rbf.kp kk, iag, ibf, Nat.le_trans n3 (by decide), Nat.le_trans n2 (by decide)⟩
  have OH : ∀ w1 vu, Kp w w1 → RunsAt w1 vu (nf (f.a ++ g.a)) → LeafOk w1 (moreL f g) vu vbf := fun w1 vu kk ru => ⟨ru, rbf.kp kk, sane_i64 (nf_sane _), ibf, Nat.le_trans LN (by omega), Nat.le_trans n2 (by decide)⟩
  have CU := Lib.hid (fun w1 (kk : Kp w w1) => union_any vaf vag f.a g.a w1 (raf.kp kk) (rag.kp kk) iaf iag (by omega))
  have HF := Lib.hid (fun w1 (kk : Kp w w1) => leafHas_any f vaf vbf pS pE w1 (OF.kp kk) (T.kp kk) hp1 hp2 hp3 hp4)
  have HX := Lib.hid (fun w1 (kk : Kp w w1) => leafHas_any (sideL f g) vag vbf pS pE w1 (OX w1 kk) (T.kp kk) hp1 hp2 hp3 hp4)
  have HH := Lib.hid (fun w1 vu (kk : Kp w w1) (ru : RunsAt w1 vu (nf (f.a ++ g.a))) => leafHas_any (moreL f g) vu vbf pS pE w1 (OH w1 vu kk ru) (T.kp kk) hp1 hp2 hp3 hp4)
  rw [more_has hsf hsg hs hu] at HH
  have EF := Lib.hid (fun w1 (kk : Kp w w1) => leafEmpty_any f vaf vbf w1 (OF.kp kk) (T.kp kk).2)
  have EX := Lib.hid (fun w1 (kk : Kp w w1) => leafEmpty_any (sideL f g) vag vbf w1 (OX w1 kk) (T.kp kk).2)
  have EH := Lib.hid (fun w1 vu (kk : Kp w w1) (ru : RunsAt w1 vu (nf (f.a ++ g.a))) => leafEmpty_any (moreL f g) vu vbf w1 (OH w1 vu kk ru) (T.kp kk).2)
  rw [more_empty hsf hsg hs hu] at EH
  have CF := Lib.hid (fun w1 (kk : Kp w w1) => leafCovers_any f vaf vbf pS w1 (OF.kp kk) (T.kp kk))
  have CH := Lib.hid (fun w1 vu (kk : Kp w w1) (ru : RunsAt w1 vu (nf (f.a ++ g.a))) => leafCovers_any (moreL f g) vu vbf pS w1 (OH w1 vu kk ru) (T.kp kk))
  have MC := Lib.hid (more_covers hsf hsg hs hu pS)
  have SH := Lib.hid (fun w1 vu (kk : Kp w w1) (ru : RunsAt w1 vu (nf (f.a ++ g.a))) => leafSane_any (moreL f g) vu vbf w1 ru (OH w1 vu kk ru).b (sane_i64 (nf_sane _)) ibf (Nat.le_trans (OH w1 vu kk ru).na (by decide)) (Nat.le_trans (OH w1 vu kk ru).nb (by decide)) (T.kp kk).2)
  rw [MO.1] at SH
  generalize hasF (famR f) pS pE = bf' at *
  generalize hasF (famR (sideL f g)) pS pE = bx at *
  generalize emptyF (famR f) = ef at *
  generalize emptyF (famR (sideL f g)) = ex at *
  generalize coversF (famR f) pS = cf at *
  generalize coversF (famR (moreL f g)) pS = ch at *
  clear MO OF OX OH
  unfold moreL at HH EH CH SH
  generalize nf (f.a ++ g.a) = U at *
  unfold sideL at HX EX
  have HU := Lib.hid hu
  have HS := Lib.hid hs
  clear hu hs hsf hsg
  have HSP := Lib.hid hsp
  clear hsp
  obtain ⟨spf, uf, af, bf⟩ := f
  obtain ⟨adf, caf, rfl⟩ := raf.slice
  obtain ⟨bdf, cbf, rfl⟩ := rbf.slice
  obtain ⟨spg, ug, ag, bg⟩ := g
  obtain ⟨adg, cag, rfl⟩ := rag.slice
  obtain ⟨bdg, cbg, rfl⟩ := rbg.slice
  unfold leafV at *
  simp only at *
  obtain ⟨W0, hW⟩ : ∃ W0, W0 = ((w.alloc (.cells #[.bool spf, .int .i64 uf, .slice adf af.length caf, .slice bdf bf.length cbf] 24)).alloc (.cells #[.bool spg, .int .i64 ug, .slice adg ag.length cag, .slice bdg bg.length cbg] 24)).alloc (.cells #[.int .i64 pS, .int .i64 pE] 26) := ⟨_, rfl⟩
  have K00 := Lib.hid (show Kp w W0 by rw [hW]; exact ((Kp.alloc _ _).trans (Kp.alloc _ _)).trans (Kp.alloc _ _))
  have HB := Lib.hid (fun w1 (k : Kp W0 w1) => show w1.cell? ⟨w.heap.size, 0, none⟩ = some (.bool spf) ∧ w1.cell? ⟨w.heap.size, 1, none⟩ = some (.int .i64 uf) ∧ w1.cell? ⟨w.heap.size, 2, none⟩ = some (.slice adf af.length caf) ∧ w1.cell? ⟨w.heap.size, 3, none⟩ = some (.slice bdf bf.length cbf) ∧ w1.cell? ⟨w.heap.size + 1, 0, none⟩ = some (.bool spg) ∧ w1.cell? ⟨w.heap.size + 1, 1, none⟩ = some (.int .i64 ug) ∧ w1.cell? ⟨w.heap.size + 1, 2, none⟩ = some (.slice adg ag.length cag) ∧ w1.cell? ⟨w.heap.size + 1, 3, none⟩ = some (.slice bdg bg.length cbg) ∧ w1.cell? ⟨w.heap.size + 1 + 1, 0, none⟩ = some (.int .i64 pS) ∧ w1.cell? ⟨w.heap.size + 1 + 1, 1, none⟩ = some (.int .i64 pE) from ⟨cell_up k (show W0.cell? ⟨w.heap.size, 0, none⟩ = some (.bool spf) by rw [hW]; go_simp), cell_up k (show W0.cell? ⟨w.heap.size, 1, none⟩ = some (.int .i64 uf) by rw [hW]; go_simp), cell_up k (show W0.cell? ⟨w.heap.size, 2, none⟩ = some (.slice adf af.length caf) by rw [hW]; go_simp), cell_up k (show W0.cell? ⟨w.heap.size, 3, none⟩ = some (.slice bdf bf.length cbf) by rw [hW]; go_simp), cell_up k (show W0.cell? ⟨w.heap.size + 1, 0, none⟩ = some (.bool spg) by rw [hW]; go_simp), cell_up k (show W0.cell? ⟨w.heap.size + 1, 1, none⟩ = some (.int .i64 ug) by rw [hW]; go_simp), cell_up k (show W0.cell? ⟨w.heap.size + 1, 2, none⟩ = some (.slice adg ag.length cag) by rw [hW]; go_simp), cell_up k (show W0.cell? ⟨w.heap.size + 1, 3, none⟩ = some (.slice bdg bg.length cbg) by rw [hW]; go_simp), cell_up k (show W0.cell? ⟨w.heap.size + 1 + 1, 0, none⟩ = some (.int .i64 pS) by rw [hW]; go_simp), cell_up k (show W0.cell? ⟨w.heap.size + 1 + 1, 1, none⟩ = some (.int .i64 pE) by rw [hW]; go_simp)⟩)
  obtain ⟨c0, c1, c2, c3, c4, c5, c6, c7, c8, c9⟩ := HB.out W0 (Kp.refl _)
  have K0 := Lib.hid (Kp.refl W0)
  have HW := Lib.hid hW
  clear hW
  have AW := Lib.hid (fun w1 (kk : Kp W0 w1) => awake14 w1 (T.kp (K00.out.trans kk)))
  have F1 := Lib.hid (fun w1 (kk : Kp W0 w1) => FF.out w1 (K00.out.trans kk))
  have F2 := Lib.hid (fun w1 (kk : Kp W0 w1) => FG.out w1 (K00.out.trans kk))
  have S1 := Lib.hid (fun w1 (kk : Kp W0 w1) => SF.out w1 (K00.out.trans kk))
  have S2 := Lib.hid (fun w1 (kk : Kp W0 w1) => SG.out w1 (K00.out.trans kk))
  have HU' := Lib.hid (fun w1 (kk : Kp W0 w1) => CU.out w1 (K00.out.trans kk))
  clear raf rbf rag rbg T LN FF FG SF SG
  have hs := HS.out
  have hu := HU.out
  clear HU HS
  (try simp only at hs hu)
  subst hs
  have hsp := HSP.out
  clear HSP
  (try simp only at hsp)
  subst hsp
  have hx : (false != false) = false := by simp
  have hy : (uf != ug) = false := by simp [hu rfl]
  clear hu
  go_enter Tryd.func5, Tryd.ntmps5
  go_wp2_with fail
  rw [← HW.out]
  refine (AW.out _ (by first | with_reducible exact K0.out | with_reducible exact K0.out.trans (Kp.alloc _ _) | with_reducible exact (K0.out.trans (Kp.alloc _ _)).trans (Kp.alloc _ _) | with_reducible exact ((K0.out.trans (Kp.alloc _ _)).trans (Kp.alloc _ _)).trans (Kp.alloc _ _) | with_reducible exact K0.out.trans (Kp.drew _) | with_reducible exact K0.out.trans (Kp.drewN _ _))).mono ?_
  rintro e w1 ⟨rfl, kk⟩
  have K1 := Lib.hid ((show Kp W0 _ from (by first | with_reducible exact K0.out | with_reducible exact K0.out.trans (Kp.alloc _ _) | with_reducible exact (K0.out.trans (Kp.alloc _ _)).trans (Kp.alloc _ _) | with_reducible exact ((K0.out.trans (Kp.alloc _ _)).trans (Kp.alloc _ _)).trans (Kp.alloc _ _) | with_reducible exact K0.out.trans (Kp.drew _) | with_reducible exact K0.out.trans (Kp.drewN _ _))).trans kk)
  clear kk
  clear c0 c1 c2 c3 c4 c5 c6 c7 c8 c9
  obtain ⟨c0, c1, c2, c3, c4, c5, c6, c7, c8, c9⟩ := HB.out w1 K1.out
  go_wp2_with fail
  refine (F1.out _ (by first | with_reducible exact K1.out | with_reducible exact K1.out.trans (Kp.alloc _ _) | with_reducible exact (K1.out.trans (Kp.alloc _ _)).trans (Kp.alloc _ _) | with_reducible exact ((K1.out.trans (Kp.alloc _ _)).trans (Kp.alloc _ _)).trans (Kp.alloc _ _) | with_reducible exact K1.out.trans (Kp.drew _) | with_reducible exact K1.out.trans (Kp.drewN _ _))).mono ?_
  rintro e w2 ⟨rfl, kk⟩
  have K2 := Lib.hid ((show Kp W0 _ from (by first | with_reducible exact K1.out | with_reducible exact K1.out.trans (Kp.alloc _ _) | with_reducible exact (K1.out.trans (Kp.alloc _ _)).trans (Kp.alloc _ _) | with_reducible exact ((K1.out.trans (Kp.alloc _ _)).trans (Kp.alloc _ _)).trans (Kp.alloc _ _) | with_reducible exact K1.out.trans (Kp.drew _) | with_reducible exact K1.out.trans (Kp.drewN _ _))).trans kk)
  clear kk
  clear c0 c1 c2 c3 c4 c5 c6 c7 c8 c9
  obtain ⟨c0, c1, c2, c3, c4, c5, c6, c7, c8, c9⟩ := HB.out w2 K2.out
  go_wp2_with fail
  refine (F2.out _ (by first | with_reducible exact K2.out | with_reducible exact K2.out.trans (Kp.alloc _ _) | with_reducible exact (K2.out.trans (Kp.alloc _ _)).trans (Kp.alloc _ _) | with_reducible exact ((K2.out.trans (Kp.alloc _ _)).trans (Kp.alloc _ _)).trans (Kp.alloc _ _) | with_reducible exact K2.out.trans (Kp.drew _) | with_reducible exact K2.out.trans (Kp.drewN _ _))).mono ?_
  rintro e w3 ⟨rfl, kk⟩
  have K3 := Lib.hid ((show Kp W0 _ from (by first | with_reducible exact K2.out | with_reducible exact K2.out.trans (Kp.alloc _ _) | with_reducible exact (K2.out.trans (Kp.alloc _ _)).trans (Kp.alloc _ _) | with_reducible exact ((K2.out.trans (Kp.alloc _ _)).trans (Kp.alloc _ _)).trans (Kp.alloc _ _) | with_reducible exact K2.out.trans (Kp.drew _) | with_reducible exact K2.out.trans (Kp.drewN _ _))).trans kk)
  clear kk
  clear c0 c1 c2 c3 c4 c5 c6 c7 c8 c9
  obtain ⟨c0, c1, c2, c3, c4, c5, c6, c7, c8, c9⟩ := HB.out w3 K3.out
  go_wp2_with fail
  refine (S1.out _ (by first | with_reducible exact K3.out | with_reducible exact K3.out.trans (Kp.alloc _ _) | with_reducible exact (K3.out.trans (Kp.alloc _ _)).trans (Kp.alloc _ _) | with_reducible exact ((K3.out.trans (Kp.alloc _ _)).trans (Kp.alloc _ _)).trans (Kp.alloc _ _) | with_reducible exact K3.out.trans (Kp.drew _) | with_reducible exact K3.out.trans (Kp.drewN _ _))).mono ?_
  rintro e w4 ⟨rfl, kk⟩
  have K4 := Lib.hid ((show Kp W0 _ from (by first | with_reducible exact K3.out | with_reducible exact K3.out.trans (Kp.alloc _ _) | with_reducible exact (K3.out.trans (Kp.alloc _ _)).trans (Kp.alloc _ _) | with_reducible exact ((K3.out.trans (Kp.alloc _ _)).trans (Kp.alloc _ _)).trans (Kp.alloc _ _) | with_reducible exact K3.out.trans (Kp.drew _) | with_reducible exact K3.out.trans (Kp.drewN _ _))).trans kk)
  clear kk
  clear c0 c1 c2 c3 c4 c5 c6 c7 c8 c9
  obtain ⟨c0, c1, c2, c3, c4, c5, c6, c7, c8, c9⟩ := HB.out w4 K4.out
  go_wp2_with fail
  refine (S2.out _ (by first | with_reducible exact K4.out | with_reducible exact K4.out.trans (Kp.alloc _ _) | with_reducible exact (K4.out.trans (Kp.alloc _ _)).trans (Kp.alloc _ _) | with_reducible exact ((K4.out.trans (Kp.alloc _ _)).trans (Kp.alloc _ _)).trans (Kp.alloc _ _) | with_reducible exact K4.out.trans (Kp.drew _) | with_reducible exact K4.out.trans (Kp.drewN _ _))).mono ?_
  rintro e w5 ⟨rfl, kk⟩
  have K5 := Lib.hid ((show Kp W0 _ from (by first | with_reducible exact K4.out | with_reducible exact K4.out.trans (Kp.alloc _ _) | with_reducible exact (K4.out.trans (Kp.alloc _ _)).trans (Kp.alloc _ _) | with_reducible exact ((K4.out.trans (Kp.alloc _ _)).trans (Kp.alloc _ _)).trans (Kp.alloc _ _) | with_reducible exact K4.out.trans (Kp.drew _) | with_reducible exact K4.out.trans (Kp.drewN _ _))).trans kk)
  clear kk
  clear c0 c1 c2 c3 c4 c5 c6 c7 c8 c9
  obtain ⟨c0, c1, c2, c3, c4, c5, c6, c7, c8, c9⟩ := HB.out w5 K5.out
  have KS := Lib.hid (fun w' (kq : Kp w5 w') => show w'.cell? ⟨w.heap.size, 0, none⟩ = some (.bool false) ∧ w'.cell? ⟨w.heap.size, 1, none⟩ = some (.int .i64 uf) ∧ w'.cell? ⟨w.heap.size, 2, none⟩ = some (.slice adf af.length caf) ∧ w'.cell? ⟨w.heap.size, 3, none⟩ = some (.slice bdf bf.length cbf) ∧ w'.cell? ⟨w.heap.size + 1, 0, none⟩ = some (.bool false) ∧ w'.cell? ⟨w.heap.size + 1, 1, none⟩ = some (.int .i64 ug) ∧ w'.cell? ⟨w.heap.size + 1, 2, none⟩ = some (.slice adg ag.length cag) ∧ w'.cell? ⟨w.heap.size + 1, 3, none⟩ = some (.slice bdg bg.length cbg) ∧ w'.cell? ⟨w.heap.size + 1 + 1, 0, none⟩ = some (.int .i64 pS) ∧ w'.cell? ⟨w.heap.size + 1 + 1, 1, none⟩ = some (.int .i64 pE) ∧ Kp w5 w' from ⟨(HB.out w' (K5.out.trans kq)).1, (HB.out w' (K5.out.trans kq)).2.1, (HB.out w' (K5.out.trans kq)).2.2.1, (HB.out w' (K5.out.trans kq)).2.2.2.1, (HB.out w' (K5.out.trans kq)).2.2.2.2.1, (HB.out w' (K5.out.trans kq)).2.2.2.2.2.1, (HB.out w' (K5.out.trans kq)).2.2.2.2.2.2.1, (HB.out w' (K5.out.trans kq)).2.2.2.2.2.2.2.1, (HB.out w' (K5.out.trans kq)).2.2.2.2.2.2.2.2.1, (HB.out w' (K5.out.trans kq)).2.2.2.2.2.2.2.2.2, kq⟩)
  go_wp2_with fail
  refine wp_region_held_drew (S := fun w' => w'.cell? ⟨w.heap.size, 0, none⟩ = some (.bool false) ∧ w'.cell? ⟨w.heap.size, 1, none⟩ = some (.int .i64 uf) ∧ w'.cell? ⟨w.heap.size, 2, none⟩ = some (.slice adf af.length caf) ∧ w'.cell? ⟨w.heap.size, 3, none⟩ = some (.slice bdf bf.length cbf) ∧ w'.cell? ⟨w.heap.size + 1, 0, none⟩ = some (.bool false) ∧ w'.cell? ⟨w.heap.size + 1, 1, none⟩ = some (.int .i64 ug) ∧ w'.cell? ⟨w.heap.size + 1, 2, none⟩ = some (.slice adg ag.length cag) ∧ w'.cell? ⟨w.heap.size + 1, 3, none⟩ = some (.slice bdg bg.length cbg) ∧ w'.cell? ⟨w.heap.size + 1 + 1, 0, none⟩ = some (.int .i64 pS) ∧ w'.cell? ⟨w.heap.size + 1 + 1, 1, none⟩ = some (.int .i64 pE) ∧ Kp w5 w') (by kernel_rfl) ?_ (fun hHeld0 => ?_)
  · (try dsimp only); exact KS.out _ (by first | exact Kp.drew _ | exact (Kp.drew _).trans (Kp.alloc _ _) | assumption | exact Kp.trans k2 (Kp.alloc _ _) | exact set4_below k2 w5.heap.size (Nat.le_refl _) _ _ _ _)
  refine tkW (v := ?_) 0 mC0 rfl (by kernel_rfl) (by kernel_rfl) (by kernel_rfl) (fun _ _ _ h => h) (by rfl) ?_ (by assumption) ?_
  rotate_left
  · intro w hSw; (try dsimp only at hSw); go_simp; (try with_reducible rfl)
  (try simp only [Act.put, mC0, List.setIfInBounds_toArray, List.set_cons_zero, List.set_cons_succ])
  refine tkW (v := ?_) 1 mC1 rfl (by kernel_rfl) (by kernel_rfl) (by kernel_rfl) (fun _ _ _ h => h) (by rfl) ?_ (by assumption) ?_
  rotate_left
  · intro w hSw; (try dsimp only at hSw); go_simp; (try with_reducible rfl)
  (try simp only [Act.put, mC1, List.setIfInBounds_toArray, List.set_cons_zero, List.set_cons_succ])
  refine tkW (v := ?_) 2 mC2 rfl (by kernel_rfl) (by kernel_rfl) (by kernel_rfl) (fun _ _ _ h => h) (by rfl) ?_ (by assumption) ?_
  rotate_left
  · intro w hSw; (try dsimp only at hSw); go_simp; (try with_reducible rfl)
  (try simp only [Act.put, mC2, List.setIfInBounds_toArray, List.set_cons_zero, List.set_cons_succ])
  refine tkW (v := ?_) 3 mC3 rfl (by kernel_rfl) (by kernel_rfl) (by kernel_rfl) (fun _ _ _ h => h) (by rfl) ?_ (by assumption) ?_
  rotate_left
  · intro w hSw; (try dsimp only at hSw); go_simp; (try with_reducible rfl)
  (try simp only [Act.put, mC3, List.setIfInBounds_toArray, List.set_cons_zero, List.set_cons_succ])
  refine tkW (v := ?_) 4 mC4 rfl (by kernel_rfl) (by kernel_rfl) (by kernel_rfl) (fun _ _ _ h => h) (by rfl) ?_ (by assumption) ?_
  rotate_left
  · intro w hSw; (try dsimp only at hSw); go_simp; (try with_reducible rfl)
  (try simp only [Act.put, mC4, List.setIfInBounds_toArray, List.set_cons_zero, List.set_cons_succ])
  refine tkW (v := ?_) 5 mC5 rfl (by kernel_rfl) (by kernel_rfl) (by kernel_rfl) (fun _ _ _ h => h) (by rfl) ?_ (by assumption) ?_
  rotate_left
  · intro w hSw; (try dsimp only at hSw); go_simp; (try with_reducible rfl)
  (try simp only [Act.put, mC5, List.setIfInBounds_toArray, List.set_cons_zero, List.set_cons_succ])
  refine tkW (v := ?_) 6 mC6 rfl (by kernel_rfl) (by kernel_rfl) (by kernel_rfl) (fun _ _ _ h => h) (by rfl) ?_ (by assumption) ?_
  rotate_left
  · intro w hSw; (try dsimp only at hSw); go_simp; (try with_reducible rfl)
  (try simp only [Act.put, mC6, List.setIfInBounds_toArray, List.set_cons_zero, List.set_cons_succ])
  refine tkW (v := ?_) 7 mC7 rfl (by kernel_rfl) (by kernel_rfl) (by kernel_rfl) (fun _ _ _ h => h) (by rfl) ?_ (by assumption) ?_
  rotate_left
  · intro w hSw; (try dsimp only at hSw); go_simp; (try with_reducible rfl)
  (try simp only [Act.put, mC7, List.setIfInBounds_toArray, List.set_cons_zero, List.set_cons_succ])
  refine tkW (v := ?_) 9 mC9 rfl (by kernel_rfl) (by kernel_rfl) (by kernel_rfl) (fun _ _ _ h => h) (by rfl) ?_ (by assumption) ?_
  rotate_left
  · intro w hSw; (try dsimp only at hSw); go_simp; (try with_reducible rfl)
  (try simp only [Act.put, mC9, List.setIfInBounds_toArray, List.set_cons_zero, List.set_cons_succ])
  refine tkW (v := ?_) 10 mC10 rfl (by kernel_rfl) (by kernel_rfl) (by kernel_rfl) (fun _ _ _ h => h) (by rfl) ?_ (by assumption) ?_
  rotate_left
  · intro w hSw; (try dsimp only at hSw); go_simp; (try with_reducible rfl)
  (try simp only [Act.put, mC10, List.setIfInBounds_toArray, List.set_cons_zero, List.set_cons_succ])
  refine tkE2 8 12 mC8 mC12 rfl rfl (by kernel_rfl) (fun K hK => ?_) (fun K hK => ?_)
  · go_simp
    (refine (HU'.out _ (K5.out.trans (by first | exact Kp.drew _ | exact (Kp.drew _).trans (Kp.alloc _ _)))).mono ?_; rintro e w' ⟨vu, rfl, ownu, k1⟩; obtain ⟨adu, cpu, rfl⟩ := own_slice ownu; have RU := Lib.hid (runsAt_own ownu); clear ownu; have k2 := Kp.trans (show Kp w5 _ from (by first | exact Kp.drew _ | exact (Kp.drew _).trans (Kp.alloc _ _))) k1)
    (try go_wp2_with fail)
    refine hK.out _ _ ?_ (fun hHeld1 => ?_)
    · (try dsimp only); exact KS.out _ (by first | exact Kp.drew _ | exact (Kp.drew _).trans (Kp.alloc _ _) | assumption | exact Kp.trans k2 (Kp.alloc _ _) | exact set4_below k2 w5.heap.size (Nat.le_refl _) _ _ _ _)
    clear hK K hHeld0
    (try simp only [Act.put, mC8, List.setIfInBounds_toArray, List.set_cons_zero, List.set_cons_succ])
    refine tkW (v := ?_) 11 mC11 rfl (by kernel_rfl) (by kernel_rfl) (by kernel_rfl) (fun _ _ _ h => h) (by rfl) ?_ (by assumption) ?_
    rotate_left
    · intro w hSw; (try dsimp only at hSw); go_simp; (try with_reducible rfl)
    (try simp only [Act.put, mC11, List.setIfInBounds_toArray, List.set_cons_zero, List.set_cons_succ])
    refine tkE 12 mC12 rfl (by kernel_rfl) (fun K hK => ?_)
    go_simp
    skip
    (try go_wp2_with fail)
    refine hK.out _ _ ?_ (fun hHeld2 => ?_)
    · (try dsimp only); exact KS.out _ (by first | exact Kp.drew _ | exact (Kp.drew _).trans (Kp.alloc _ _) | assumption | exact Kp.trans k2 (Kp.alloc _ _) | exact set4_below k2 w5.heap.size (Nat.le_refl _) _ _ _ _)
    clear hK K hHeld1
    (try simp only [Act.put, mC12, List.setIfInBounds_toArray, List.set_cons_zero, List.set_cons_succ])
    refine tkE 13 mC13 rfl (by kernel_rfl) (fun K hK => ?_)
    go_simp
    skip
    (try go_wp2_with fail)
    refine hK.out _ _ ?_ (fun hHeld3 => ?_)
    · (try dsimp only); exact KS.out _ (by first | exact Kp.drew _ | exact (Kp.drew _).trans (Kp.alloc _ _) | assumption | exact Kp.trans k2 (Kp.alloc _ _) | exact set4_below k2 w5.heap.size (Nat.le_refl _) _ _ _ _)
    clear hK K hHeld2
    (try simp only [Act.put, mC13, List.setIfInBounds_toArray, List.set_cons_zero, List.set_cons_succ])
    refine wpAnyH_done (by kernel_rfl) ?_ _
    obtain ⟨wu, hwu⟩ : ∃ x : World, x = w' := ⟨_, rfl⟩
    subst hwu
    have Ku := Lib.hid (K5.out.trans k2)
    obtain ⟨V, hV⟩ : ∃ x, x = wu.alloc (.cells #[.bool false, .int .i64 uf, .slice adu U.length cpu, .slice bdf bf.length cbf] 24) := ⟨_, rfl⟩
    have ka : Kp wu V := by rw [hV]; exact Kp.alloc _ _
    have hgq : V.heap[wu.heap.size]? = some (.cells #[.bool false, .int .i64 uf, .slice adu U.length cpu, .slice bdf bf.length cbf] 24 (0, 0)) := by rw [hV]; exact heap_at _ _ _ rfl
    have q0 : V.cell? ⟨wu.heap.size, 0, none⟩ = some (.bool false) := by simp [World.cell?, hgq]
    have q1 : V.cell? ⟨wu.heap.size, 1, none⟩ = some (.int .i64 uf) := by simp [World.cell?, hgq]
    have q2 : V.cell? ⟨wu.heap.size, 2, none⟩ = some (.slice adu U.length cpu) := by simp [World.cell?, hgq]
    have q3 : V.cell? ⟨wu.heap.size, 3, none⟩ = some (.slice bdf bf.length cbf) := by simp [World.cell?, hgq]
    have HB2 := Lib.hid (fun w1 (k : Kp V w1) => show w1.cell? ⟨w.heap.size, 0, none⟩ = some (.bool false) ∧ w1.cell? ⟨w.heap.size, 1, none⟩ = some (.int .i64 uf) ∧ w1.cell? ⟨w.heap.size, 2, none⟩ = some (.slice adf af.length caf) ∧ w1.cell? ⟨w.heap.size, 3, none⟩ = some (.slice bdf bf.length cbf) ∧ w1.cell? ⟨w.heap.size + 1, 0, none⟩ = some (.bool false) ∧ w1.cell? ⟨w.heap.size + 1, 1, none⟩ = some (.int .i64 ug) ∧ w1.cell? ⟨w.heap.size + 1, 2, none⟩ = some (.slice adg ag.length cag) ∧ w1.cell? ⟨w.heap.size + 1, 3, none⟩ = some (.slice bdg bg.length cbg) ∧ w1.cell? ⟨w.heap.size + 1 + 1, 0, none⟩ = some (.int .i64 pS) ∧ w1.cell? ⟨w.heap.size + 1 + 1, 1, none⟩ = some (.int .i64 pE) ∧ w1.cell? ⟨wu.heap.size, 0, none⟩ = some (.bool false) ∧ w1.cell? ⟨wu.heap.size, 1, none⟩ = some (.int .i64 uf) ∧ w1.cell? ⟨wu.heap.size, 2, none⟩ = some (.slice adu U.length cpu) ∧ w1.cell? ⟨wu.heap.size, 3, none⟩ = some (.slice bdf bf.length cbf) from ⟨(HB.out w1 (Ku.out.trans (ka.trans k))).1, (HB.out w1 (Ku.out.trans (ka.trans k))).2.1, (HB.out w1 (Ku.out.trans (ka.trans k))).2.2.1, (HB.out w1 (Ku.out.trans (ka.trans k))).2.2.2.1, (HB.out w1 (Ku.out.trans (ka.trans k))).2.2.2.2.1, (HB.out w1 (Ku.out.trans (ka.trans k))).2.2.2.2.2.1, (HB.out w1 (Ku.out.trans (ka.trans k))).2.2.2.2.2.2.1, (HB.out w1 (Ku.out.trans (ka.trans k))).2.2.2.2.2.2.2.1, (HB.out w1 (Ku.out.trans (ka.trans k))).2.2.2.2.2.2.2.2.1, (HB.out w1 (Ku.out.trans (ka.trans k))).2.2.2.2.2.2.2.2.2, cell_up k q0, cell_up k q1, cell_up k q2, cell_up k q3⟩)
    have K01 := Lib.hid (K00.out.trans (Ku.out.trans ka))
    have RV : RunsAt V (.slice adu U.length cpu) U := by rw [hV]; exact RU.out.kp (Kp.alloc _ _)
    have XS := Lib.hid (fun w1 (kk : Kp V w1) => SH.out w1 _ (K01.out.trans kk) (RV.kp kk))
    have XH := Lib.hid (fun w1 (kk : Kp V w1) => HH.out w1 _ (K01.out.trans kk) (RV.kp kk))
    have XE := Lib.hid (fun w1 (kk : Kp V w1) => EH.out w1 _ (K01.out.trans kk) (RV.kp kk))
    have XC := Lib.hid (fun w1 (kk : Kp V w1) => CH.out w1 _ (K01.out.trans kk) (RV.kp kk))
    have YH := Lib.hid (fun w1 (kk : Kp V w1) => HF.out w1 (K01.out.trans kk))
    have YE := Lib.hid (fun w1 (kk : Kp V w1) => EF.out w1 (K01.out.trans kk))
    have YC := Lib.hid (fun w1 (kk : Kp V w1) => CF.out w1 (K01.out.trans kk))
    have ZH := Lib.hid (fun w1 (kk : Kp V w1) => HX.out w1 (K01.out.trans kk))
    have ZE := Lib.hid (fun w1 (kk : Kp V w1) => EX.out w1 (K01.out.trans kk))
    clear RV SH HH EH CH HF EF CF HX EX RU HU'
    clear HB K00 hgq c0 c1 c2 c3 c4 c5 c6 c7 c8 c9 q0 q1 q2 q3
    have HB := HB2
    have K00 := K01
    clear HB2 K01
    have KV := Lib.hid (Kp.refl V)
    have HV := Lib.hid hV
    clear hV ka
    rw [← HV.out]
    obtain ⟨c0, c1, c2, c3, c4, c5, c6, c7, c8, c9, c10, c11, c12, c13⟩ := HB.out V (Kp.refl _)
    clear k2 k1
    obtain ⟨V2, hV⟩ : ∃ x, x = V.alloc (.cells #[.bool false, .int .i64 ug, .slice adg ag.length cag, .slice bdf bf.length cbf] 24) := ⟨_, rfl⟩
    have ka : Kp V V2 := by rw [hV]; exact Kp.alloc _ _
    have hgq : V2.heap[V.heap.size]? = some (.cells #[.bool false, .int .i64 ug, .slice adg ag.length cag, .slice bdf bf.length cbf] 24 (0, 0)) := by rw [hV]; exact heap_at _ _ _ rfl
    have q0 : V2.cell? ⟨V.heap.size, 0, none⟩ = some (.bool false) := by simp [World.cell?, hgq]
    have q1 : V2.cell? ⟨V.heap.size, 1, none⟩ = some (.int .i64 ug) := by simp [World.cell?, hgq]
    have q2 : V2.cell? ⟨V.heap.size, 2, none⟩ = some (.slice adg ag.length cag) := by simp [World.cell?, hgq]
    have q3 : V2.cell? ⟨V.heap.size, 3, none⟩ = some (.slice bdf bf.length cbf) := by simp [World.cell?, hgq]
    have HB2 := Lib.hid (fun w1 (k : Kp V2 w1) => show w1.cell? ⟨w.heap.size, 0, none⟩ = some (.bool false) ∧ w1.cell? ⟨w.heap.size, 1, none⟩ = some (.int .i64 uf) ∧ w1.cell? ⟨w.heap.size, 2, none⟩ = some (.slice adf af.length caf) ∧ w1.cell? ⟨w.heap.size, 3, none⟩ = some (.slice bdf bf.length cbf) ∧ w1.cell? ⟨w.heap.size + 1, 0, none⟩ = some (.bool false) ∧ w1.cell? ⟨w.heap.size + 1, 1, none⟩ = some (.int .i64 ug) ∧ w1.cell? ⟨w.heap.size + 1, 2, none⟩ = some (.slice adg ag.length cag) ∧ w1.cell? ⟨w.heap.size + 1, 3, none⟩ = some (.slice bdg bg.length cbg) ∧ w1.cell? ⟨w.heap.size + 1 + 1, 0, none⟩ = some (.int .i64 pS) ∧ w1.cell? ⟨w.heap.size + 1 + 1, 1, none⟩ = some (.int .i64 pE) ∧ w1.cell? ⟨wu.heap.size, 0, none⟩ = some (.bool false) ∧ w1.cell? ⟨wu.heap.size, 1, none⟩ = some (.int .i64 uf) ∧ w1.cell? ⟨wu.heap.size, 2, none⟩ = some (.slice adu U.length cpu) ∧ w1.cell? ⟨wu.heap.size, 3, none⟩ = some (.slice bdf bf.length cbf) ∧ w1.cell? ⟨V.heap.size, 0, none⟩ = some (.bool false) ∧ w1.cell? ⟨V.heap.size, 1, none⟩ = some (.int .i64 ug) ∧ w1.cell? ⟨V.heap.size, 2, none⟩ = some (.slice adg ag.length cag) ∧ w1.cell? ⟨V.heap.size, 3, none⟩ = some (.slice bdf bf.length cbf) from ⟨(HB.out w1 (KV.out.trans (ka.trans k))).1, (HB.out w1 (KV.out.trans (ka.trans k))).2.1, (HB.out w1 (KV.out.trans (ka.trans k))).2.2.1, (HB.out w1 (KV.out.trans (ka.trans k))).2.2.2.1, (HB.out w1 (KV.out.trans (ka.trans k))).2.2.2.2.1, (HB.out w1 (KV.out.trans (ka.trans k))).2.2.2.2.2.1, (HB.out w1 (KV.out.trans (ka.trans k))).2.2.2.2.2.2.1, (HB.out w1 (KV.out.trans (ka.trans k))).2.2.2.2.2.2.2.1, (HB.out w1 (KV.out.trans (ka.trans k))).2.2.2.2.2.2.2.2.1, (HB.out w1 (KV.out.trans (ka.trans k))).2.2.2.2.2.2.2.2.2.1, (HB.out w1 (KV.out.trans (ka.trans k))).2.2.2.2.2.2.2.2.2.2.1, (HB.out w1 (KV.out.trans (ka.trans k))).2.2.2.2.2.2.2.2.2.2.2.1, (HB.out w1 (KV.out.trans (ka.trans k))).2.2.2.2.2.2.2.2.2.2.2.2.1, (HB.out w1 (KV.out.trans (ka.trans k))).2.2.2.2.2.2.2.2.2.2.2.2.2, cell_up k q0, cell_up k q1, cell_up k q2, cell_up k q3⟩)
    have K01 := Lib.hid (K00.out.trans (KV.out.trans ka))
    have KK := Lib.hid ka
    clear HB K00 hgq  q0 q1 q2 q3
    have HB := HB2
    have K00 := K01
    clear HB2 K01
    have KV2 := Lib.hid (Kp.refl V2)
    have HV2 := Lib.hid hV
    clear hV ka
    go_wp2_with fail
    rw [← HV2.out]
    clear c0 c1 c2 c3 c4 c5 c6 c7 c8 c9 c10 c11 c12 c13
    obtain ⟨c0, c1, c2, c3, c4, c5, c6, c7, c8, c9, c10, c11, c12, c13, c14, c15, c16, c17⟩ := HB.out V2 (Kp.refl _)
    have eb : (bx == bx) = true := by simp
    have ee : (ex == ex) = true := by simp
    have KS := Lib.hid (fun w' (kq : Kp V2 w') => show w'.cell? ⟨w.heap.size, 0, none⟩ = some (.bool false) ∧ w'.cell? ⟨w.heap.size, 1, none⟩ = some (.int .i64 uf) ∧ w'.cell? ⟨w.heap.size, 2, none⟩ = some (.slice adf af.length caf) ∧ w'.cell? ⟨w.heap.size, 3, none⟩ = some (.slice bdf bf.length cbf) ∧ w'.cell? ⟨w.heap.size + 1, 0, none⟩ = some (.bool false) ∧ w'.cell? ⟨w.heap.size + 1, 1, none⟩ = some (.int .i64 ug) ∧ w'.cell? ⟨w.heap.size + 1, 2, none⟩ = some (.slice adg ag.length cag) ∧ w'.cell? ⟨w.heap.size + 1, 3, none⟩ = some (.slice bdg bg.length cbg) ∧ w'.cell? ⟨w.heap.size + 1 + 1, 0, none⟩ = some (.int .i64 pS) ∧ w'.cell? ⟨w.heap.size + 1 + 1, 1, none⟩ = some (.int .i64 pE) ∧ w'.cell? ⟨wu.heap.size, 0, none⟩ = some (.bool false) ∧ w'.cell? ⟨wu.heap.size, 1, none⟩ = some (.int .i64 uf) ∧ w'.cell? ⟨wu.heap.size, 2, none⟩ = some (.slice adu U.length cpu) ∧ w'.cell? ⟨wu.heap.size, 3, none⟩ = some (.slice bdf bf.length cbf) ∧ w'.cell? ⟨V.heap.size, 0, none⟩ = some (.bool false) ∧ w'.cell? ⟨V.heap.size, 1, none⟩ = some (.int .i64 ug) ∧ w'.cell? ⟨V.heap.size, 2, none⟩ = some (.slice adg ag.length cag) ∧ w'.cell? ⟨V.heap.size, 3, none⟩ = some (.slice bdf bf.length cbf) ∧ Kp V2 w' from ⟨(HB.out w' (KV2.out.trans kq)).1, (HB.out w' (KV2.out.trans kq)).2.1, (HB.out w' (KV2.out.trans kq)).2.2.1, (HB.out w' (KV2.out.trans kq)).2.2.2.1, (HB.out w' (KV2.out.trans kq)).2.2.2.2.1, (HB.out w' (KV2.out.trans kq)).2.2.2.2.2.1, (HB.out w' (KV2.out.trans kq)).2.2.2.2.2.2.1, (HB.out w' (KV2.out.trans kq)).2.2.2.2.2.2.2.1, (HB.out w' (KV2.out.trans kq)).2.2.2.2.2.2.2.2.1, (HB.out w' (KV2.out.trans kq)).2.2.2.2.2.2.2.2.2.1, (HB.out w' (KV2.out.trans kq)).2.2.2.2.2.2.2.2.2.2.1, (HB.out w' (KV2.out.trans kq)).2.2.2.2.2.2.2.2.2.2.2.1, (HB.out w' (KV2.out.trans kq)).2.2.2.2.2.2.2.2.2.2.2.2.1, (HB.out w' (KV2.out.trans kq)).2.2.2.2.2.2.2.2.2.2.2.2.2.1, (HB.out w' (KV2.out.trans kq)).2.2.2.2.2.2.2.2.2.2.2.2.2.2.1, (HB.out w' (KV2.out.trans kq)).2.2.2.2.2.2.2.2.2.2.2.2.2.2.2.1, (HB.out w' (KV2.out.trans kq)).2.2.2.2.2.2.2.2.2.2.2.2.2.2.2.2.1, (HB.out w' (KV2.out.trans kq)).2.2.2.2.2.2.2.2.2.2.2.2.2.2.2.2.2, kq⟩)
    go_wp2_with fail
    refine wp_region_held_drew (S := fun w' => w'.cell? ⟨w.heap.size, 0, none⟩ = some (.bool false) ∧ w'.cell? ⟨w.heap.size, 1, none⟩ = some (.int .i64 uf) ∧ w'.cell? ⟨w.heap.size, 2, none⟩ = some (.slice adf af.length caf) ∧ w'.cell? ⟨w.heap.size, 3, none⟩ = some (.slice bdf bf.length cbf) ∧ w'.cell? ⟨w.heap.size + 1, 0, none⟩ = some (.bool false) ∧ w'.cell? ⟨w.heap.size + 1, 1, none⟩ = some (.int .i64 ug) ∧ w'.cell? ⟨w.heap.size + 1, 2, none⟩ = some (.slice adg ag.length cag) ∧ w'.cell? ⟨w.heap.size + 1, 3, none⟩ = some (.slice bdg bg.length cbg) ∧ w'.cell? ⟨w.heap.size + 1 + 1, 0, none⟩ = some (.int .i64 pS) ∧ w'.cell? ⟨w.heap.size + 1 + 1, 1, none⟩ = some (.int .i64 pE) ∧ w'.cell? ⟨wu.heap.size, 0, none⟩ = some (.bool false) ∧ w'.cell? ⟨wu.heap.size, 1, none⟩ = some (.int .i64 uf) ∧ w'.cell? ⟨wu.heap.size, 2, none⟩ = some (.slice adu U.length cpu) ∧ w'.cell? ⟨wu.heap.size, 3, none⟩ = some (.slice bdf bf.length cbf) ∧ w'.cell? ⟨V.heap.size, 0, none⟩ = some (.bool false) ∧ w'.cell? ⟨V.heap.size, 1, none⟩ = some (.int .i64 ug) ∧ w'.cell? ⟨V.heap.size, 2, none⟩ = some (.slice adg ag.length cag) ∧ w'.cell? ⟨V.heap.size, 3, none⟩ = some (.slice bdf bf.length cbf) ∧ Kp V2 w') (by kernel_rfl) ?_ (fun hHeld0 => ?_)
    · (try dsimp only); exact KS.out _ (by first | assumption | exact Kp.drew _)
    refine tkW (v := ?_) 0 mD0 rfl (by kernel_rfl) (by kernel_rfl) (by kernel_rfl) (fun _ _ _ h => h) (by rfl) ?_ (by assumption) ?_
    rotate_left
    · intro w hSw; (try dsimp only at hSw); go_simp; (try with_reducible rfl)
    (try simp only [Act.put, mD0, List.setIfInBounds_toArray, List.set_cons_zero, List.set_cons_succ])
    refine tkW (v := ?_) 1 mD1 rfl (by kernel_rfl) (by kernel_rfl) (by kernel_rfl) (fun _ _ _ h => h) (by rfl) ?_ (by assumption) ?_
    rotate_left
    · intro w hSw; (try dsimp only at hSw); go_simp; (try with_reducible rfl)
    (try simp only [Act.put, mD1, List.setIfInBounds_toArray, List.set_cons_zero, List.set_cons_succ])
    refine tkW (v := ?_) 2 mD2 rfl (by kernel_rfl) (by kernel_rfl) (by kernel_rfl) (fun _ _ _ h => h) (by rfl) ?_ (by assumption) ?_
    rotate_left
    · intro w hSw; (try dsimp only at hSw); go_simp; (try with_reducible rfl)
    (try simp only [Act.put, mD2, List.setIfInBounds_toArray, List.set_cons_zero, List.set_cons_succ])
    refine tkE 3 mD3 rfl (by kernel_rfl) (fun K hK => ?_)
    go_simp
    (refine (XS.out _ (KK.out.trans (KV2.out.trans (by first | assumption | exact Kp.drew _)))).mono ?_; rintro e w' ⟨rfl, k1⟩; have k2 := Kp.trans (show Kp V2 _ from (by first | assumption | exact Kp.drew _)) k1; clear k1)
    (try go_wp2_with fail)
    refine hK.out _ _ ?_ (fun hHeld1 => ?_)
    · (try dsimp only); exact KS.out _ (by first | assumption | exact Kp.drew _)
    clear hK K hHeld0
    (try simp only [Act.put, mD3, List.setIfInBounds_toArray, List.set_cons_zero, List.set_cons_succ])
    refine tkW (v := ?_) 4 mD4 rfl (by kernel_rfl) (by kernel_rfl) (by kernel_rfl) (fun _ _ _ h => h) (by rfl) ?_ (by assumption) ?_
    rotate_left
    · intro w hSw; (try dsimp only at hSw); go_simp; (try with_reducible rfl)
    (try simp only [Act.put, mD4, List.setIfInBounds_toArray, List.set_cons_zero, List.set_cons_succ])
    refine tkW (v := ?_) 5 mD5 rfl (by kernel_rfl) (by kernel_rfl) (by kernel_rfl) (fun _ _ _ h => h) (by rfl) ?_ (by assumption) ?_
    rotate_left
    · intro w hSw; (try dsimp only at hSw); go_simp; (try with_reducible rfl)
    (try simp only [Act.put, mD5, List.setIfInBounds_toArray, List.set_cons_zero, List.set_cons_succ])
    refine tkW (v := ?_) 6 mD6 rfl (by kernel_rfl) (by kernel_rfl) (by kernel_rfl) (fun _ _ _ h => h) (by rfl) ?_ (by assumption) ?_
    rotate_left
    · intro w hSw; (try dsimp only at hSw); go_simp; (try with_reducible rfl)
    (try simp only [Act.put, mD6, List.setIfInBounds_toArray, List.set_cons_zero, List.set_cons_succ])
    refine tkW (v := ?_) 7 mD7 rfl (by kernel_rfl) (by kernel_rfl) (by kernel_rfl) (fun _ _ _ h => h) (by rfl) ?_ (by assumption) ?_
    rotate_left
    · intro w hSw; (try dsimp only at hSw); go_simp; (try with_reducible rfl)
    (try simp only [Act.put, mD7, List.setIfInBounds_toArray, List.set_cons_zero, List.set_cons_succ])
    refine tkW (v := ?_) 9 mD9 rfl (by kernel_rfl) (by kernel_rfl) (by kernel_rfl) (fun _ _ _ h => h) (by rfl) ?_ (by assumption) ?_
    rotate_left
    · intro w hSw; (try dsimp only at hSw); go_simp; (try with_reducible rfl)
    (try simp only [Act.put, mD9, List.setIfInBounds_toArray, List.set_cons_zero, List.set_cons_succ])
    refine tkW (v := ?_) 10 mD10 rfl (by kernel_rfl) (by kernel_rfl) (by kernel_rfl) (fun _ _ _ h => h) (by rfl) ?_ (by assumption) ?_
    rotate_left
    · intro w hSw; (try dsimp only at hSw); go_simp; (try with_reducible rfl)
    (try simp only [Act.put, mD10, List.setIfInBounds_toArray, List.set_cons_zero, List.set_cons_succ])
    refine tkE 8 mD8 rfl (by kernel_rfl) (fun K hK => ?_)
    go_simp
    (refine (XH.out _ (KK.out.trans (KV2.out.trans (by first | assumption | exact Kp.drew _)))).mono ?_; rintro e w' ⟨rfl, k1⟩; have k2 := Kp.trans (show Kp V2 _ from (by first | assumption | exact Kp.drew _)) k1; clear k1)
    (try go_wp2_with fail)
    refine hK.out _ _ ?_ (fun hHeld2 => ?_)
    · (try dsimp only); exact KS.out _ (by first | assumption | exact Kp.drew _)
    clear hK K hHeld1
    (try simp only [Act.put, mD8, List.setIfInBounds_toArray, List.set_cons_zero, List.set_cons_succ])
    refine tkE 11 mD11 rfl (by kernel_rfl) (fun K hK => ?_)
    go_simp
    (refine (YH.out _ (KK.out.trans (KV2.out.trans (by first | assumption | exact Kp.drew _)))).mono ?_; rintro e w' ⟨rfl, k1⟩; have k2 := Kp.trans (show Kp V2 _ from (by first | assumption | exact Kp.drew _)) k1; clear k1)
    (try go_wp2_with fail)
    refine hK.out _ _ ?_ (fun hHeld3 => ?_)
    · (try dsimp only); exact KS.out _ (by first | assumption | exact Kp.drew _)
    clear hK K hHeld2
    (try simp only [Act.put, mD11, List.setIfInBounds_toArray, List.set_cons_zero, List.set_cons_succ])
    refine tkW (v := ?_) 12 mD12 rfl (by kernel_rfl) (by kernel_rfl) (by kernel_rfl) (fun _ _ _ h => h) (by rfl) ?_ (by assumption) ?_
    rotate_left
    · intro w hSw; (try dsimp only at hSw); go_simp; (try with_reducible rfl)
    (try simp only [Act.put, mD12, List.setIfInBounds_toArray, List.set_cons_zero, List.set_cons_succ])
    cases bf' with
    | false =>
      refine tkW (v := ?_) 13 mD13 rfl (by kernel_rfl) (by kernel_rfl) (by kernel_rfl) (fun _ _ _ h => h) (by rfl) ?_ (by assumption) ?_
      rotate_left
      · intro w hSw; (try dsimp only at hSw); go_simp; (try with_reducible rfl)
      (try simp only [Act.put, mD13, List.setIfInBounds_toArray, List.set_cons_zero, List.set_cons_succ])
      refine tkW (v := ?_) 14 mD14 rfl (by kernel_rfl) (by kernel_rfl) (by kernel_rfl) (fun _ _ _ h => h) (by rfl) ?_ (by assumption) ?_
      rotate_left
      · intro w hSw; (try dsimp only at hSw); go_simp; (try with_reducible rfl)
      (try simp only [Act.put, mD14, List.setIfInBounds_toArray, List.set_cons_zero, List.set_cons_succ])
      refine tkE 15 mD15 rfl (by kernel_rfl) (fun K hK => ?_)
      go_simp
      (refine (ZH.out _ (KK.out.trans (KV2.out.trans (by first | assumption | exact Kp.drew _)))).mono ?_; rintro e w' ⟨rfl, k1⟩; have k2 := Kp.trans (show Kp V2 _ from (by first | assumption | exact Kp.drew _)) k1; clear k1)
      (try go_wp2_with fail)
      refine hK.out _ _ ?_ (fun hHeld4 => ?_)
      · (try dsimp only); exact KS.out _ (by first | assumption | exact Kp.drew _)
      clear hK K hHeld3
      (try simp only [Act.put, mD15, List.setIfInBounds_toArray, List.set_cons_zero, List.set_cons_succ])
      refine tkW (v := ?_) 16 mD16 rfl (by kernel_rfl) (by kernel_rfl) (by kernel_rfl) (fun _ _ _ h => h) (by rfl) ?_ (by assumption) ?_
      rotate_left
      · intro w hSw; (try dsimp only at hSw); go_simp; (try with_reducible rfl)
      (try simp only [Act.put, mD16, List.setIfInBounds_toArray, List.set_cons_zero, List.set_cons_succ])
      refine tkW (v := ?_) 17 mD17 rfl (by kernel_rfl) (by kernel_rfl) (by kernel_rfl) (fun _ _ _ h => h) (by rfl) ?_ (by assumption) ?_
      rotate_left
      · intro w hSw; (try dsimp only at hSw); go_simp; (try with_reducible rfl)
      (try simp only [Act.put, mD17, List.setIfInBounds_toArray, List.set_cons_zero, List.set_cons_succ])
      refine tkW (v := ?_) 18 mD18 rfl (by kernel_rfl) (by kernel_rfl) (by kernel_rfl) (fun _ _ _ h => h) (by rfl) ?_ (by assumption) ?_
      rotate_left
      · intro w hSw; (try dsimp only at hSw); go_simp; (try with_reducible rfl)
      (try simp only [Act.put, mD18, List.setIfInBounds_toArray, List.set_cons_zero, List.set_cons_succ])
      refine tkW (v := ?_) 19 mD19 rfl (by kernel_rfl) (by kernel_rfl) (by kernel_rfl) (fun _ _ _ h => h) (by rfl) ?_ (by assumption) ?_
      rotate_left
      · intro w hSw; (try dsimp only at hSw); go_simp; (try with_reducible rfl)
      (try simp only [Act.put, mD19, List.setIfInBounds_toArray, List.set_cons_zero, List.set_cons_succ])
      refine tkW (v := ?_) 20 mD20 rfl (by kernel_rfl) (by kernel_rfl) (by kernel_rfl) (fun _ _ _ h => h) (by rfl) ?_ (by assumption) ?_
      rotate_left
      · intro w hSw; (try dsimp only at hSw); go_simp; (try with_reducible rfl)
      (try simp only [Act.put, mD20, List.setIfInBounds_toArray, List.set_cons_zero, List.set_cons_succ])
      refine tkW (v := ?_) 22 mD22 rfl (by kernel_rfl) (by kernel_rfl) (by kernel_rfl) (fun _ _ _ h => h) (by rfl) ?_ (by assumption) ?_
      rotate_left
      · intro w hSw; (try dsimp only at hSw); go_simp; (try with_reducible rfl)
      (try simp only [Act.put, mD22, List.setIfInBounds_toArray, List.set_cons_zero, List.set_cons_succ])
      refine tkE 21 mD21 rfl (by kernel_rfl) (fun K hK => ?_)
      go_simp
      (refine (XE.out _ (KK.out.trans (KV2.out.trans (by first | assumption | exact Kp.drew _)))).mono ?_; rintro e w' ⟨rfl, k1⟩; have k2 := Kp.trans (show Kp V2 _ from (by first | assumption | exact Kp.drew _)) k1; clear k1)
      (try go_wp2_with fail)
      refine hK.out _ _ ?_ (fun hHeld5 => ?_)
      · (try dsimp only); exact KS.out _ (by first | assumption | exact Kp.drew _)
      clear hK K hHeld4
      (try simp only [Act.put, mD21, List.setIfInBounds_toArray, List.set_cons_zero, List.set_cons_succ])
      refine tkE 23 mD23 rfl (by kernel_rfl) (fun K hK => ?_)
      go_simp
      (refine (YE.out _ (KK.out.trans (KV2.out.trans (by first | assumption | exact Kp.drew _)))).mono ?_; rintro e w' ⟨rfl, k1⟩; have k2 := Kp.trans (show Kp V2 _ from (by first | assumption | exact Kp.drew _)) k1; clear k1)
      (try go_wp2_with fail)
      refine hK.out _ _ ?_ (fun hHeld6 => ?_)
      · (try dsimp only); exact KS.out _ (by first | assumption | exact Kp.drew _)
      clear hK K hHeld5
      (try simp only [Act.put, mD23, List.setIfInBounds_toArray, List.set_cons_zero, List.set_cons_succ])
      refine tkW (v := ?_) 24 mD24 rfl (by kernel_rfl) (by kernel_rfl) (by kernel_rfl) (fun _ _ _ h => h) (by rfl) ?_ (by assumption) ?_
      rotate_left
      · intro w hSw; (try dsimp only at hSw); go_simp; (try with_reducible rfl)
      (try simp only [Act.put, mD24, List.setIfInBounds_toArray, List.set_cons_zero, List.set_cons_succ])
      cases ef with
      | false =>
        refine tkU 25 mD25 rfl (by kernel_rfl) (by kernel_rfl) (by kernel_rfl) (fun _ _ _ h => h) (by rfl) (by assumption) ?_
        (try simp only [Act.put, mD25, List.setIfInBounds_toArray, List.set_cons_zero, List.set_cons_succ])
        refine tkU 26 mD26 rfl (by kernel_rfl) (by kernel_rfl) (by kernel_rfl) (fun _ _ _ h => h) (by rfl) (by assumption) ?_
        (try simp only [Act.put, mD26, List.setIfInBounds_toArray, List.set_cons_zero, List.set_cons_succ])
        refine tkW (v := ?_) 27 mD27 rfl (by kernel_rfl) (by kernel_rfl) (by kernel_rfl) (fun _ _ _ h => h) (by rfl) ?_ (by assumption) ?_
        rotate_left
        · intro w hSw; (try dsimp only at hSw); go_simp; (try with_reducible rfl)
        (try simp only [Act.put, mD27, List.setIfInBounds_toArray, List.set_cons_zero, List.set_cons_succ])
        refine tkW (v := ?_) 28 mD28 rfl (by kernel_rfl) (by kernel_rfl) (by kernel_rfl) (fun _ _ _ h => h) (by rfl) ?_ (by assumption) ?_
        rotate_left
        · intro w hSw; (try dsimp only at hSw); go_simp; (try with_reducible rfl)
        (try simp only [Act.put, mD28, List.setIfInBounds_toArray, List.set_cons_zero, List.set_cons_succ])
        refine tkW (v := ?_) 29 mD29 rfl (by kernel_rfl) (by kernel_rfl) (by kernel_rfl) (fun _ _ _ h => h) (by rfl) ?_ (by assumption) ?_
        rotate_left
        · intro w hSw; (try dsimp only at hSw); go_simp; (try with_reducible rfl)
        (try simp only [Act.put, mD29, List.setIfInBounds_toArray, List.set_cons_zero, List.set_cons_succ])
        refine tkW (v := ?_) 30 mD30 rfl (by kernel_rfl) (by kernel_rfl) (by kernel_rfl) (fun _ _ _ h => h) (by rfl) ?_ (by assumption) ?_
        rotate_left
        · intro w hSw; (try dsimp only at hSw); go_simp; (try with_reducible rfl)
        (try simp only [Act.put, mD30, List.setIfInBounds_toArray, List.set_cons_zero, List.set_cons_succ])
        refine tkW (v := ?_) 31 mD31 rfl (by kernel_rfl) (by kernel_rfl) (by kernel_rfl) (fun _ _ _ h => h) (by rfl) ?_ (by assumption) ?_
        rotate_left
        · intro w hSw; (try dsimp only at hSw); go_simp; (try with_reducible rfl)
        (try simp only [Act.put, mD31, List.setIfInBounds_toArray, List.set_cons_zero, List.set_cons_succ])
        refine tkW (v := ?_) 32 mD32 rfl (by kernel_rfl) (by kernel_rfl) (by kernel_rfl) (fun _ _ _ h => h) (by rfl) ?_ (by assumption) ?_
        rotate_left
        · intro w hSw; (try dsimp only at hSw); go_simp; (try with_reducible rfl)
        (try simp only [Act.put, mD32, List.setIfInBounds_toArray, List.set_cons_zero, List.set_cons_succ])
        refine tkW (v := ?_) 33 mD33 rfl (by kernel_rfl) (by kernel_rfl) (by kernel_rfl) (fun _ _ _ h => h) (by rfl) ?_ (by assumption) ?_
        rotate_left
        · intro w hSw; (try dsimp only at hSw); go_simp; (try with_reducible rfl)
        (try simp only [Act.put, mD33, List.setIfInBounds_toArray, List.set_cons_zero, List.set_cons_succ])
        refine tkE 34 mD34 rfl (by kernel_rfl) (fun K hK => ?_)
        go_simp
        (refine (YC.out _ (KK.out.trans (KV2.out.trans (by first | assumption | exact Kp.drew _)))).mono ?_; rintro e w' ⟨rfl, k1⟩; have k2 := Kp.trans (show Kp V2 _ from (by first | assumption | exact Kp.drew _)) k1; clear k1)
        (try go_wp2_with fail)
        refine hK.out _ _ ?_ (fun hHeld7 => ?_)
        · (try dsimp only); exact KS.out _ (by first | assumption | exact Kp.drew _)
        clear hK K hHeld6
        (try simp only [Act.put, mD34, List.setIfInBounds_toArray, List.set_cons_zero, List.set_cons_succ])
        cases cf with
        | false =>
          refine tkW (v := ?_) 35 mD35 rfl (by kernel_rfl) (by kernel_rfl) (by kernel_rfl) (fun _ _ _ h => h) (by rfl) ?_ (by assumption) ?_
          rotate_left
          · intro w hSw; (try dsimp only at hSw); go_simp; (try with_reducible rfl)
          (try simp only [Act.put, mD35, List.setIfInBounds_toArray, List.set_cons_zero, List.set_cons_succ])
          refine tkW (v := ?_) 36 mD36 rfl (by kernel_rfl) (by kernel_rfl) (by kernel_rfl) (fun _ _ _ h => h) (by rfl) ?_ (by assumption) ?_
          rotate_left
          · intro w hSw; (try dsimp only at hSw); go_simp; (try with_reducible rfl)
          (try simp only [Act.put, mD36, List.setIfInBounds_toArray, List.set_cons_zero, List.set_cons_succ])
          refine tkU 37 mD37 rfl (by kernel_rfl) (by kernel_rfl) (by kernel_rfl) (fun _ _ _ h => h) (by rfl) (by assumption) ?_
          (try simp only [Act.put, mD37, List.setIfInBounds_toArray, List.set_cons_zero, List.set_cons_succ])
          refine tkU 38 mD38 rfl (by kernel_rfl) (by kernel_rfl) (by kernel_rfl) (fun _ _ _ h => h) (by rfl) (by assumption) ?_
          (try simp only [Act.put, mD38, List.setIfInBounds_toArray, List.set_cons_zero, List.set_cons_succ])
          refine tkU 39 mD39 rfl (by kernel_rfl) (by kernel_rfl) (by kernel_rfl) (fun _ _ _ h => h) (by rfl) (by assumption) ?_
          (try simp only [Act.put, mD39, List.setIfInBounds_toArray, List.set_cons_zero, List.set_cons_succ])
          refine tkU 40 mD40 rfl (by kernel_rfl) (by kernel_rfl) (by kernel_rfl) (fun _ _ _ h => h) (by rfl) (by assumption) ?_
          (try simp only [Act.put, mD40, List.setIfInBounds_toArray, List.set_cons_zero, List.set_cons_succ])
          refine tkW (v := ?_) 41 mD41 rfl (by kernel_rfl) (by kernel_rfl) (by kernel_rfl) (fun _ _ _ h => h) (by rfl) ?_ (by assumption) ?_
          rotate_left
          · intro w hSw; (try dsimp only at hSw); go_simp; (try with_reducible rfl)
          (try simp only [Act.put, mD41, List.setIfInBounds_toArray, List.set_cons_zero, List.set_cons_succ])
          refine tkW (v := ?_) 42 mD42 rfl (by kernel_rfl) (by kernel_rfl) (by kernel_rfl) (fun _ _ _ h => h) (by rfl) ?_ (by assumption) ?_
          rotate_left
          · intro w hSw; (try dsimp only at hSw); go_simp; (try with_reducible rfl)
          (try simp only [Act.put, mD42, List.setIfInBounds_toArray, List.set_cons_zero, List.set_cons_succ])
          refine tkW (v := ?_) 43 mD43 rfl (by kernel_rfl) (by kernel_rfl) (by kernel_rfl) (fun _ _ _ h => h) (by rfl) ?_ (by assumption) ?_
          rotate_left
          · intro w hSw; (try dsimp only at hSw); go_simp; (try with_reducible rfl)
          (try simp only [Act.put, mD43, List.setIfInBounds_toArray, List.set_cons_zero, List.set_cons_succ])
          refine wpAnyH_done (by kernel_rfl) ?_ _
          go_wp2
          go_ret
          exact ⟨by first | rfl | (have := MC.out (by first | rfl | trivial); simp [this]) | simp, K00.out.trans (by first | assumption | exact Kp.drew _)⟩
        | true =>
          refine tkW (v := ?_) 35 mD35 rfl (by kernel_rfl) (by kernel_rfl) (by kernel_rfl) (fun _ _ _ h => h) (by rfl) ?_ (by assumption) ?_
          rotate_left
          · intro w hSw; (try dsimp only at hSw); go_simp; (try with_reducible rfl)
          (try simp only [Act.put, mD35, List.setIfInBounds_toArray, List.set_cons_zero, List.set_cons_succ])
          refine tkW (v := ?_) 36 mD36 rfl (by kernel_rfl) (by kernel_rfl) (by kernel_rfl) (fun _ _ _ h => h) (by rfl) ?_ (by assumption) ?_
          rotate_left
          · intro w hSw; (try dsimp only at hSw); go_simp; (try with_reducible rfl)
          (try simp only [Act.put, mD36, List.setIfInBounds_toArray, List.set_cons_zero, List.set_cons_succ])
          refine tkW (v := ?_) 37 mD37 rfl (by kernel_rfl) (by kernel_rfl) (by kernel_rfl) (fun _ _ _ h => h) (by rfl) ?_ (by assumption) ?_
          rotate_left
          · intro w hSw; (try dsimp only at hSw); go_simp; (try with_reducible rfl)
          (try simp only [Act.put, mD37, List.setIfInBounds_toArray, List.set_cons_zero, List.set_cons_succ])
          refine tkW (v := ?_) 38 mD38 rfl (by kernel_rfl) (by kernel_rfl) (by kernel_rfl) (fun _ _ _ h => h) (by rfl) ?_ (by assumption) ?_
          rotate_left
          · intro w hSw; (try dsimp only at hSw); go_simp; (try with_reducible rfl)
          (try simp only [Act.put, mD38, List.setIfInBounds_toArray, List.set_cons_zero, List.set_cons_succ])
          refine tkW (v := ?_) 39 mD39 rfl (by kernel_rfl) (by kernel_rfl) (by kernel_rfl) (fun _ _ _ h => h) (by rfl) ?_ (by assumption) ?_
          rotate_left
          · intro w hSw; (try dsimp only at hSw); go_simp; (try with_reducible rfl)
          (try simp only [Act.put, mD39, List.setIfInBounds_toArray, List.set_cons_zero, List.set_cons_succ])
          refine tkE 40 mD40 rfl (by kernel_rfl) (fun K hK => ?_)
          go_simp
          (refine (XC.out _ (KK.out.trans (KV2.out.trans (by first | assumption | exact Kp.drew _)))).mono ?_; rintro e w' ⟨rfl, k1⟩; have k2 := Kp.trans (show Kp V2 _ from (by first | assumption | exact Kp.drew _)) k1; clear k1)
          (try go_wp2_with fail)
          refine hK.out _ _ ?_ (fun hHeld8 => ?_)
          · (try dsimp only); exact KS.out _ (by first | assumption | exact Kp.drew _)
          clear hK K hHeld7
          (try simp only [Act.put, mD40, List.setIfInBounds_toArray, List.set_cons_zero, List.set_cons_succ])
          refine tkW (v := ?_) 41 mD41 rfl (by kernel_rfl) (by kernel_rfl) (by kernel_rfl) (fun _ _ _ h => h) (by rfl) ?_ (by assumption) ?_
          rotate_left
          · intro w hSw; (try dsimp only at hSw); go_simp; (try with_reducible rfl)
          (try simp only [Act.put, mD41, List.setIfInBounds_toArray, List.set_cons_zero, List.set_cons_succ])
          refine tkW (v := ?_) 42 mD42 rfl (by kernel_rfl) (by kernel_rfl) (by kernel_rfl) (fun _ _ _ h => h) (by rfl) ?_ (by assumption) ?_
          rotate_left
          · intro w hSw; (try dsimp only at hSw); go_simp; (try with_reducible rfl)
          (try simp only [Act.put, mD42, List.setIfInBounds_toArray, List.set_cons_zero, List.set_cons_succ])
          refine tkW (v := ?_) 43 mD43 rfl (by kernel_rfl) (by kernel_rfl) (by kernel_rfl) (fun _ _ _ h => h) (by rfl) ?_ (by assumption) ?_
          rotate_left
          · intro w hSw; (try dsimp only at hSw); go_simp; (try with_reducible rfl)
          (try simp only [Act.put, mD43, List.setIfInBounds_toArray, List.set_cons_zero, List.set_cons_succ])
          refine wpAnyH_done (by kernel_rfl) ?_ _
          go_wp2
          go_ret
          exact ⟨by first | rfl | (have := MC.out (by first | rfl | trivial); simp [this]) | simp, K00.out.trans (by first | assumption | exact Kp.drew _)⟩
      | true =>
        refine tkW (v := ?_) 25 mD25 rfl (by kernel_rfl) (by kernel_rfl) (by kernel_rfl) (fun _ _ _ h => h) (by rfl) ?_ (by assumption) ?_
        rotate_left
        · intro w hSw; (try dsimp only at hSw); go_simp; (try with_reducible rfl)
        (try simp only [Act.put, mD25, List.setIfInBounds_toArray, List.set_cons_zero, List.set_cons_succ])
        refine tkE 26 mD26 rfl (by kernel_rfl) (fun K hK => ?_)
        go_simp
        (refine (ZE.out _ (KK.out.trans (KV2.out.trans (by first | assumption | exact Kp.drew _)))).mono ?_; rintro e w' ⟨rfl, k1⟩; have k2 := Kp.trans (show Kp V2 _ from (by first | assumption | exact Kp.drew _)) k1; clear k1)
        (try go_wp2_with fail)
        refine hK.out _ _ ?_ (fun hHeld7 => ?_)
        · (try dsimp only); exact KS.out _ (by first | assumption | exact Kp.drew _)
        clear hK K hHeld6
        (try simp only [Act.put, mD26, List.setIfInBounds_toArray, List.set_cons_zero, List.set_cons_succ])
        refine tkW (v := ?_) 27 mD27 rfl (by kernel_rfl) (by kernel_rfl) (by kernel_rfl) (fun _ _ _ h => h) (by rfl) ?_ (by assumption) ?_
        rotate_left
        · intro w hSw; (try dsimp only at hSw); go_simp; (try with_reducible rfl)
        (try simp only [Act.put, mD27, List.setIfInBounds_toArray, List.set_cons_zero, List.set_cons_succ])
        refine tkW (v := ?_) 28 mD28 rfl (by kernel_rfl) (by kernel_rfl) (by kernel_rfl) (fun _ _ _ h => h) (by rfl) ?_ (by assumption) ?_
        rotate_left
        · intro w hSw; (try dsimp only at hSw); go_simp; (try with_reducible rfl)
        (try simp only [Act.put, mD28, List.setIfInBounds_toArray, List.set_cons_zero, List.set_cons_succ])
        refine tkW (v := ?_) 29 mD29 rfl (by kernel_rfl) (by kernel_rfl) (by kernel_rfl) (fun _ _ _ h => h) (by rfl) ?_ (by assumption) ?_
        rotate_left
        · intro w hSw; (try dsimp only at hSw); go_simp; (try with_reducible rfl)
        (try simp only [Act.put, mD29, List.setIfInBounds_toArray, List.set_cons_zero, List.set_cons_succ])
        refine tkW (v := ?_) 30 mD30 rfl (by kernel_rfl) (by kernel_rfl) (by kernel_rfl) (fun _ _ _ h => h) (by rfl) ?_ (by assumption) ?_
        rotate_left
        · intro w hSw; (try dsimp only at hSw); go_simp; (try with_reducible rfl)
        (try simp only [Act.put, mD30, List.setIfInBounds_toArray, List.set_cons_zero, List.set_cons_succ])
        refine tkW (v := ?_) 31 mD31 rfl (by kernel_rfl) (by kernel_rfl) (by kernel_rfl) (fun _ _ _ h => h) (by rfl) ?_ (by assumption) ?_
        rotate_left
        · intro w hSw; (try dsimp only at hSw); go_simp; (try with_reducible rfl)
        (try simp only [Act.put, mD31, List.setIfInBounds_toArray, List.set_cons_zero, List.set_cons_succ])
        refine tkW (v := ?_) 32 mD32 rfl (by kernel_rfl) (by kernel_rfl) (by kernel_rfl) (fun _ _ _ h => h) (by rfl) ?_ (by assumption) ?_
        rotate_left
        · intro w hSw; (try dsimp only at hSw); go_simp; (try with_reducible rfl)
        (try simp only [Act.put, mD32, List.setIfInBounds_toArray, List.set_cons_zero, List.set_cons_succ])
        refine tkW (v := ?_) 33 mD33 rfl (by kernel_rfl) (by kernel_rfl) (by kernel_rfl) (fun _ _ _ h => h) (by rfl) ?_ (by assumption) ?_
        rotate_left
        · intro w hSw; (try dsimp only at hSw); go_simp; (try with_reducible rfl)
        (try simp only [Act.put, mD33, List.setIfInBounds_toArray, List.set_cons_zero, List.set_cons_succ])
        refine tkE 34 mD34 rfl (by kernel_rfl) (fun K hK => ?_)
        go_simp
        (refine (YC.out _ (KK.out.trans (KV2.out.trans (by first | assumption | exact Kp.drew _)))).mono ?_; rintro e w' ⟨rfl, k1⟩; have k2 := Kp.trans (show Kp V2 _ from (by first | assumption | exact Kp.drew _)) k1; clear k1)
        (try go_wp2_with fail)
        refine hK.out _ _ ?_ (fun hHeld8 => ?_)
        · (try dsimp only); exact KS.out _ (by first | assumption | exact Kp.drew _)
        clear hK K hHeld7
        (try simp only [Act.put, mD34, List.setIfInBounds_toArray, List.set_cons_zero, List.set_cons_succ])
        cases cf with
        | false =>
          refine tkW (v := ?_) 35 mD35 rfl (by kernel_rfl) (by kernel_rfl) (by kernel_rfl) (fun _ _ _ h => h) (by rfl) ?_ (by assumption) ?_
          rotate_left
          · intro w hSw; (try dsimp only at hSw); go_simp; (try with_reducible rfl)
          (try simp only [Act.put, mD35, List.setIfInBounds_toArray, List.set_cons_zero, List.set_cons_succ])
          refine tkW (v := ?_) 36 mD36 rfl (by kernel_rfl) (by kernel_rfl) (by kernel_rfl) (fun _ _ _ h => h) (by rfl) ?_ (by assumption) ?_
          rotate_left
          · intro w hSw; (try dsimp only at hSw); go_simp; (try with_reducible rfl)
          (try simp only [Act.put, mD36, List.setIfInBounds_toArray, List.set_cons_zero, List.set_cons_succ])
          refine tkU 37 mD37 rfl (by kernel_rfl) (by kernel_rfl) (by kernel_rfl) (fun _ _ _ h => h) (by rfl) (by assumption) ?_
          (try simp only [Act.put, mD37, List.setIfInBounds_toArray, List.set_cons_zero, List.set_cons_succ])
          refine tkU 38 mD38 rfl (by kernel_rfl) (by kernel_rfl) (by kernel_rfl) (fun _ _ _ h => h) (by rfl) (by assumption) ?_
          (try simp only [Act.put, mD38, List.setIfInBounds_toArray, List.set_cons_zero, List.set_cons_succ])
          refine tkU 39 mD39 rfl (by kernel_rfl) (by kernel_rfl) (by kernel_rfl) (fun _ _ _ h => h) (by rfl) (by assumption) ?_
          (try simp only [Act.put, mD39, List.setIfInBounds_toArray, List.set_cons_zero, List.set_cons_succ])
          refine tkU 40 mD40 rfl (by kernel_rfl) (by kernel_rfl) (by kernel_rfl) (fun _ _ _ h => h) (by rfl) (by assumption) ?_
          (try simp only [Act.put, mD40, List.setIfInBounds_toArray, List.set_cons_zero, List.set_cons_succ])
          refine tkW (v := ?_) 41 mD41 rfl (by kernel_rfl) (by kernel_rfl) (by kernel_rfl) (fun _ _ _ h => h) (by rfl) ?_ (by assumption) ?_
          rotate_left
          · intro w hSw; (try dsimp only at hSw); go_simp; (try with_reducible rfl)
          (try simp only [Act.put, mD41, List.setIfInBounds_toArray, List.set_cons_zero, List.set_cons_succ])
          refine tkW (v := ?_) 42 mD42 rfl (by kernel_rfl) (by kernel_rfl) (by kernel_rfl) (fun _ _ _ h => h) (by rfl) ?_ (by assumption) ?_
          rotate_left
          · intro w hSw; (try dsimp only at hSw); go_simp; (try with_reducible rfl)
          (try simp only [Act.put, mD42, List.setIfInBounds_toArray, List.set_cons_zero, List.set_cons_succ])
          refine tkW (v := ?_) 43 mD43 rfl (by kernel_rfl) (by kernel_rfl) (by kernel_rfl) (fun _ _ _ h => h) (by rfl) ?_ (by assumption) ?_
          rotate_left
          · intro w hSw; (try dsimp only at hSw); go_simp; (try with_reducible rfl)
          (try simp only [Act.put, mD43, List.setIfInBounds_toArray, List.set_cons_zero, List.set_cons_succ])
          refine wpAnyH_done (by kernel_rfl) ?_ _
          go_wp2
          go_ret
          exact ⟨by first | rfl | (have := MC.out (by first | rfl | trivial); simp [this]) | simp, K00.out.trans (by first | assumption | exact Kp.drew _)⟩
        | true =>
          refine tkW (v := ?_) 35 mD35 rfl (by kernel_rfl) (by kernel_rfl) (by kernel_rfl) (fun _ _ _ h => h) (by rfl) ?_ (by assumption) ?_
          rotate_left
          · intro w hSw; (try dsimp only at hSw); go_simp; (try with_reducible rfl)
          (try simp only [Act.put, mD35, List.setIfInBounds_toArray, List.set_cons_zero, List.set_cons_succ])
          refine tkW (v := ?_) 36 mD36 rfl (by kernel_rfl) (by kernel_rfl) (by kernel_rfl) (fun _ _ _ h => h) (by rfl) ?_ (by assumption) ?_
          rotate_left
          · intro w hSw; (try dsimp only at hSw); go_simp; (try with_reducible rfl)
          (try simp only [Act.put, mD36, List.setIfInBounds_toArray, List.set_cons_zero, List.set_cons_succ])
          refine tkW (v := ?_) 37 mD37 rfl (by kernel_rfl) (by kernel_rfl) (by kernel_rfl) (fun _ _ _ h => h) (by rfl) ?_ (by assumption) ?_
          rotate_left
          · intro w hSw; (try dsimp only at hSw); go_simp; (try with_reducible rfl)
          (try simp only [Act.put, mD37, List.setIfInBounds_toArray, List.set_cons_zero, List.set_cons_succ])
          refine tkW (v := ?_) 38 mD38 rfl (by kernel_rfl) (by kernel_rfl) (by kernel_rfl) (fun _ _ _ h => h) (by rfl) ?_ (by assumption) ?_
          rotate_left
          · intro w hSw; (try dsimp only at hSw); go_simp; (try with_reducible rfl)
          (try simp only [Act.put, mD38, List.setIfInBounds_toArray, List.set_cons_zero, List.set_cons_succ])
          refine tkW (v := ?_) 39 mD39 rfl (by kernel_rfl) (by kernel_rfl) (by kernel_rfl) (fun _ _ _ h => h) (by rfl) ?_ (by assumption) ?_
          rotate_left
          · intro w hSw; (try dsimp only at hSw); go_simp; (try with_reducible rfl)
          (try simp only [Act.put, mD39, List.setIfInBounds_toArray, List.set_cons_zero, List.set_cons_succ])
          refine tkE 40 mD40 rfl (by kernel_rfl) (fun K hK => ?_)
          go_simp
          (refine (XC.out _ (KK.out.trans (KV2.out.trans (by first | assumption | exact Kp.drew _)))).mono ?_; rintro e w' ⟨rfl, k1⟩; have k2 := Kp.trans (show Kp V2 _ from (by first | assumption | exact Kp.drew _)) k1; clear k1)
          (try go_wp2_with fail)
          refine hK.out _ _ ?_ (fun hHeld9 => ?_)
          · (try dsimp only); exact KS.out _ (by first | assumption | exact Kp.drew _)
          clear hK K hHeld8
          (try simp only [Act.put, mD40, List.setIfInBounds_toArray, List.set_cons_zero, List.set_cons_succ])
          refine tkW (v := ?_) 41 mD41 rfl (by kernel_rfl) (by kernel_rfl) (by kernel_rfl) (fun _ _ _ h => h) (by rfl) ?_ (by assumption) ?_
          rotate_left
          · intro w hSw; (try dsimp only at hSw); go_simp; (try with_reducible rfl)
          (try simp only [Act.put, mD41, List.setIfInBounds_toArray, List.set_cons_zero, List.set_cons_succ])
          refine tkW (v := ?_) 42 mD42 rfl (by kernel_rfl) (by kernel_rfl) (by kernel_rfl) (fun _ _ _ h => h) (by rfl) ?_ (by assumption) ?_
          rotate_left
          · intro w hSw; (try dsimp only at hSw); go_simp; (try with_reducible rfl)
          (try simp only [Act.put, mD42, List.setIfInBounds_toArray, List.set_cons_zero, List.set_cons_succ])
          refine tkW (v := ?_) 43 mD43 rfl (by kernel_rfl) (by kernel_rfl) (by kernel_rfl) (fun _ _ _ h => h) (by rfl) ?_ (by assumption) ?_
          rotate_left
          · intro w hSw; (try dsimp only at hSw); go_simp; (try with_reducible rfl)
          (try simp only [Act.put, mD43, List.setIfInBounds_toArray, List.set_cons_zero, List.set_cons_succ])
          refine wpAnyH_done (by kernel_rfl) ?_ _
          go_wp2
          go_ret
          exact ⟨by first | rfl | (have := MC.out (by first | rfl | trivial); simp [this]) | simp, K00.out.trans (by first | assumption | exact Kp.drew _)⟩
    | true =>
      refine tkU 13 mD13 rfl (by kernel_rfl) (by kernel_rfl) (by kernel_rfl) (fun _ _ _ h => h) (by rfl) (by assumption) ?_
      (try simp only [Act.put, mD13, List.setIfInBounds_toArray, List.set_cons_zero, List.set_cons_succ])
      refine tkU 14 mD14 rfl (by kernel_rfl) (by kernel_rfl) (by kernel_rfl) (fun _ _ _ h => h) (by rfl) (by assumption) ?_
      (try simp only [Act.put, mD14, List.setIfInBounds_toArray, List.set_cons_zero, List.set_cons_succ])
      refine tkU 15 mD15 rfl (by kernel_rfl) (by kernel_rfl) (by kernel_rfl) (fun _ _ _ h => h) (by rfl) (by assumption) ?_
      (try simp only [Act.put, mD15, List.setIfInBounds_toArray, List.set_cons_zero, List.set_cons_succ])
      refine tkW (v := ?_) 16 mD16 rfl (by kernel_rfl) (by kernel_rfl) (by kernel_rfl) (fun _ _ _ h => h) (by rfl) ?_ (by assumption) ?_
      rotate_left
      · intro w hSw; (try dsimp only at hSw); go_simp; (try with_reducible rfl)
      (try simp only [Act.put, mD16, List.setIfInBounds_toArray, List.set_cons_zero, List.set_cons_succ])
      refine tkW (v := ?_) 17 mD17 rfl (by kernel_rfl) (by kernel_rfl) (by kernel_rfl) (fun _ _ _ h => h) (by rfl) ?_ (by assumption) ?_
      rotate_left
      · intro w hSw; (try dsimp only at hSw); go_simp; (try with_reducible rfl)
      (try simp only [Act.put, mD17, List.setIfInBounds_toArray, List.set_cons_zero, List.set_cons_succ])
      refine tkW (v := ?_) 18 mD18 rfl (by kernel_rfl) (by kernel_rfl) (by kernel_rfl) (fun _ _ _ h => h) (by rfl) ?_ (by assumption) ?_
      rotate_left
      · intro w hSw; (try dsimp only at hSw); go_simp; (try with_reducible rfl)
      (try simp only [Act.put, mD18, List.setIfInBounds_toArray, List.set_cons_zero, List.set_cons_succ])
      refine tkW (v := ?_) 19 mD19 rfl (by kernel_rfl) (by kernel_rfl) (by kernel_rfl) (fun _ _ _ h => h) (by rfl) ?_ (by assumption) ?_
      rotate_left
      · intro w hSw; (try dsimp only at hSw); go_simp; (try with_reducible rfl)
      (try simp only [Act.put, mD19, List.setIfInBounds_toArray, List.set_cons_zero, List.set_cons_succ])
      refine tkW (v := ?_) 20 mD20 rfl (by kernel_rfl) (by kernel_rfl) (by kernel_rfl) (fun _ _ _ h => h) (by rfl) ?_ (by assumption) ?_
      rotate_left
      · intro w hSw; (try dsimp only at hSw); go_simp; (try with_reducible rfl)
      (try simp only [Act.put, mD20, List.setIfInBounds_toArray, List.set_cons_zero, List.set_cons_succ])
      refine tkW (v := ?_) 22 mD22 rfl (by kernel_rfl) (by kernel_rfl) (by kernel_rfl) (fun _ _ _ h => h) (by rfl) ?_ (by assumption) ?_
      rotate_left
      · intro w hSw; (try dsimp only at hSw); go_simp; (try with_reducible rfl)
      (try simp only [Act.put, mD22, List.setIfInBounds_toArray, List.set_cons_zero, List.set_cons_succ])
      refine tkE 21 mD21 rfl (by kernel_rfl) (fun K hK => ?_)
      go_simp
      (refine (XE.out _ (KK.out.trans (KV2.out.trans (by first | assumption | exact Kp.drew _)))).mono ?_; rintro e w' ⟨rfl, k1⟩; have k2 := Kp.trans (show Kp V2 _ from (by first | assumption | exact Kp.drew _)) k1; clear k1)
      (try go_wp2_with fail)
      refine hK.out _ _ ?_ (fun hHeld4 => ?_)
      · (try dsimp only); exact KS.out _ (by first | assumption | exact Kp.drew _)
      clear hK K hHeld3
      (try simp only [Act.put, mD21, List.setIfInBounds_toArray, List.set_cons_zero, List.set_cons_succ])
      refine tkE 23 mD23 rfl (by kernel_rfl) (fun K hK => ?_)
      go_simp
      (refine (YE.out _ (KK.out.trans (KV2.out.trans (by first | assumption | exact Kp.drew _)))).mono ?_; rintro e w' ⟨rfl, k1⟩; have k2 := Kp.trans (show Kp V2 _ from (by first | assumption | exact Kp.drew _)) k1; clear k1)
      (try go_wp2_with fail)
      refine hK.out _ _ ?_ (fun hHeld5 => ?_)
      · (try dsimp only); exact KS.out _ (by first | assumption | exact Kp.drew _)
      clear hK K hHeld4
      (try simp only [Act.put, mD23, List.setIfInBounds_toArray, List.set_cons_zero, List.set_cons_succ])
      refine tkW (v := ?_) 24 mD24 rfl (by kernel_rfl) (by kernel_rfl) (by kernel_rfl) (fun _ _ _ h => h) (by rfl) ?_ (by assumption) ?_
      rotate_left
      · intro w hSw; (try dsimp only at hSw); go_simp; (try with_reducible rfl)
      (try simp only [Act.put, mD24, List.setIfInBounds_toArray, List.set_cons_zero, List.set_cons_succ])
      cases ef with
      | false =>
        refine tkU 25 mD25 rfl (by kernel_rfl) (by kernel_rfl) (by kernel_rfl) (fun _ _ _ h => h) (by rfl) (by assumption) ?_
        (try simp only [Act.put, mD25, List.setIfInBounds_toArray, List.set_cons_zero, List.set_cons_succ])
        refine tkU 26 mD26 rfl (by kernel_rfl) (by kernel_rfl) (by kernel_rfl) (fun _ _ _ h => h) (by rfl) (by assumption) ?_
        (try simp only [Act.put, mD26, List.setIfInBounds_toArray, List.set_cons_zero, List.set_cons_succ])
        refine tkW (v := ?_) 27 mD27 rfl (by kernel_rfl) (by kernel_rfl) (by kernel_rfl) (fun _ _ _ h => h) (by rfl) ?_ (by assumption) ?_
        rotate_left
        · intro w hSw; (try dsimp only at hSw); go_simp; (try with_reducible rfl)
        (try simp only [Act.put, mD27, List.setIfInBounds_toArray, List.set_cons_zero, List.set_cons_succ])
        refine tkW (v := ?_) 28 mD28 rfl (by kernel_rfl) (by kernel_rfl) (by kernel_rfl) (fun _ _ _ h => h) (by rfl) ?_ (by assumption) ?_
        rotate_left
        · intro w hSw; (try dsimp only at hSw); go_simp; (try with_reducible rfl)
        (try simp only [Act.put, mD28, List.setIfInBounds_toArray, List.set_cons_zero, List.set_cons_succ])
        refine tkW (v := ?_) 29 mD29 rfl (by kernel_rfl) (by kernel_rfl) (by kernel_rfl) (fun _ _ _ h => h) (by rfl) ?_ (by assumption) ?_
        rotate_left
        · intro w hSw; (try dsimp only at hSw); go_simp; (try with_reducible rfl)
        (try simp only [Act.put, mD29, List.setIfInBounds_toArray, List.set_cons_zero, List.set_cons_succ])
        refine tkW (v := ?_) 30 mD30 rfl (by kernel_rfl) (by kernel_rfl) (by kernel_rfl) (fun _ _ _ h => h) (by rfl) ?_ (by assumption) ?_
        rotate_left
        · intro w hSw; (try dsimp only at hSw); go_simp; (try with_reducible rfl)
        (try simp only [Act.put, mD30, List.setIfInBounds_toArray, List.set_cons_zero, List.set_cons_succ])
        refine tkW (v := ?_) 31 mD31 rfl (by kernel_rfl) (by kernel_rfl) (by kernel_rfl) (fun _ _ _ h => h) (by rfl) ?_ (by assumption) ?_
        rotate_left
        · intro w hSw; (try dsimp only at hSw); go_simp; (try with_reducible rfl)
        (try simp only [Act.put, mD31, List.setIfInBounds_toArray, List.set_cons_zero, List.set_cons_succ])
        refine tkW (v := ?_) 32 mD32 rfl (by kernel_rfl) (by kernel_rfl) (by kernel_rfl) (fun _ _ _ h => h) (by rfl) ?_ (by assumption) ?_
        rotate_left
        · intro w hSw; (try dsimp only at hSw); go_simp; (try with_reducible rfl)
        (try simp only [Act.put, mD32, List.setIfInBounds_toArray, List.set_cons_zero, List.set_cons_succ])
        refine tkW (v := ?_) 33 mD33 rfl (by kernel_rfl) (by kernel_rfl) (by kernel_rfl) (fun _ _ _ h => h) (by rfl) ?_ (by assumption) ?_
        rotate_left
        · intro w hSw; (try dsimp only at hSw); go_simp; (try with_reducible rfl)
        (try simp only [Act.put, mD33, List.setIfInBounds_toArray, List.set_cons_zero, List.set_cons_succ])
        refine tkE 34 mD34 rfl (by kernel_rfl) (fun K hK => ?_)
        go_simp
        (refine (YC.out _ (KK.out.trans (KV2.out.trans (by first | assumption | exact Kp.drew _)))).mono ?_; rintro e w' ⟨rfl, k1⟩; have k2 := Kp.trans (show Kp V2 _ from (by first | assumption | exact Kp.drew _)) k1; clear k1)
        (try go_wp2_with fail)
        refine hK.out _ _ ?_ (fun hHeld6 => ?_)
        · (try dsimp only); exact KS.out _ (by first | assumption | exact Kp.drew _)
        clear hK K hHeld5
        (try simp only [Act.put, mD34, List.setIfInBounds_toArray, List.set_cons_zero, List.set_cons_succ])
        cases cf with
        | false =>
          refine tkW (v := ?_) 35 mD35 rfl (by kernel_rfl) (by kernel_rfl) (by kernel_rfl) (fun _ _ _ h => h) (by rfl) ?_ (by assumption) ?_
          rotate_left
          · intro w hSw; (try dsimp only at hSw); go_simp; (try with_reducible rfl)
          (try simp only [Act.put, mD35, List.setIfInBounds_toArray, List.set_cons_zero, List.set_cons_succ])
          refine tkW (v := ?_) 36 mD36 rfl (by kernel_rfl) (by kernel_rfl) (by kernel_rfl) (fun _ _ _ h => h) (by rfl) ?_ (by assumption) ?_
          rotate_left
          · intro w hSw; (try dsimp only at hSw); go_simp; (try with_reducible rfl)
          (try simp only [Act.put, mD36, List.setIfInBounds_toArray, List.set_cons_zero, List.set_cons_succ])
          refine tkU 37 mD37 rfl (by kernel_rfl) (by kernel_rfl) (by kernel_rfl) (fun _ _ _ h => h) (by rfl) (by assumption) ?_
          (try simp only [Act.put, mD37, List.setIfInBounds_toArray, List.set_cons_zero, List.set_cons_succ])
          refine tkU 38 mD38 rfl (by kernel_rfl) (by kernel_rfl) (by kernel_rfl) (fun _ _ _ h => h) (by rfl) (by assumption) ?_
          (try simp only [Act.put, mD38, List.setIfInBounds_toArray, List.set_cons_zero, List.set_cons_succ])
          refine tkU 39 mD39 rfl (by kernel_rfl) (by kernel_rfl) (by kernel_rfl) (fun _ _ _ h => h) (by rfl) (by assumption) ?_
          (try simp only [Act.put, mD39, List.setIfInBounds_toArray, List.set_cons_zero, List.set_cons_succ])
          refine tkU 40 mD40 rfl (by kernel_rfl) (by kernel_rfl) (by kernel_rfl) (fun _ _ _ h => h) (by rfl) (by assumption) ?_
          (try simp only [Act.put, mD40, List.setIfInBounds_toArray, List.set_cons_zero, List.set_cons_succ])
          refine tkW (v := ?_) 41 mD41 rfl (by kernel_rfl) (by kernel_rfl) (by kernel_rfl) (fun _ _ _ h => h) (by rfl) ?_ (by assumption) ?_
          rotate_left
          · intro w hSw; (try dsimp only at hSw); go_simp; (try with_reducible rfl)
          (try simp only [Act.put, mD41, List.setIfInBounds_toArray, List.set_cons_zero, List.set_cons_succ])
          refine tkW (v := ?_) 42 mD42 rfl (by kernel_rfl) (by kernel_rfl) (by kernel_rfl) (fun _ _ _ h => h) (by rfl) ?_ (by assumption) ?_
          rotate_left
          · intro w hSw; (try dsimp only at hSw); go_simp; (try with_reducible rfl)
          (try simp only [Act.put, mD42, List.setIfInBounds_toArray, List.set_cons_zero, List.set_cons_succ])
          refine tkW (v := ?_) 43 mD43 rfl (by kernel_rfl) (by kernel_rfl) (by kernel_rfl) (fun _ _ _ h => h) (by rfl) ?_ (by assumption) ?_
          rotate_left
          · intro w hSw; (try dsimp only at hSw); go_simp; (try with_reducible rfl)
          (try simp only [Act.put, mD43, List.setIfInBounds_toArray, List.set_cons_zero, List.set_cons_succ])
          refine wpAnyH_done (by kernel_rfl) ?_ _
          go_wp2
          go_ret
          exact ⟨by first | rfl | (have := MC.out (by first | rfl | trivial); simp [this]) | simp, K00.out.trans (by first | assumption | exact Kp.drew _)⟩
        | true =>
          refine tkW (v := ?_) 35 mD35 rfl (by kernel_rfl) (by kernel_rfl) (by kernel_rfl) (fun _ _ _ h => h) (by rfl) ?_ (by assumption) ?_
          rotate_left
          · intro w hSw; (try dsimp only at hSw); go_simp; (try with_reducible rfl)
          (try simp only [Act.put, mD35, List.setIfInBounds_toArray, List.set_cons_zero, List.set_cons_succ])
          refine tkW (v := ?_) 36 mD36 rfl (by kernel_rfl) (by kernel_rfl) (by kernel_rfl) (fun _ _ _ h => h) (by rfl) ?_ (by assumption) ?_
          rotate_left
          · intro w hSw; (try dsimp only at hSw); go_simp; (try with_reducible rfl)
          (try simp only [Act.put, mD36, List.setIfInBounds_toArray, List.set_cons_zero, List.set_cons_succ])
          refine tkW (v := ?_) 37 mD37 rfl (by kernel_rfl) (by kernel_rfl) (by kernel_rfl) (fun _ _ _ h => h) (by rfl) ?_ (by assumption) ?_
          rotate_left
          · intro w hSw; (try dsimp only at hSw); go_simp; (try with_reducible rfl)
          (try simp only [Act.put, mD37, List.setIfInBounds_toArray, List.set_cons_zero, List.set_cons_succ])
          refine tkW (v := ?_) 38 mD38 rfl (by kernel_rfl) (by kernel_rfl) (by kernel_rfl) (fun _ _ _ h => h) (by rfl) ?_ (by assumption) ?_
          rotate_left
          · intro w hSw; (try dsimp only at hSw); go_simp; (try with_reducible rfl)
          (try simp only [Act.put, mD38, List.setIfInBounds_toArray, List.set_cons_zero, List.set_cons_succ])
          refine tkW (v := ?_) 39 mD39 rfl (by kernel_rfl) (by kernel_rfl) (by kernel_rfl) (fun _ _ _ h => h) (by rfl) ?_ (by assumption) ?_
          rotate_left
          · intro w hSw; (try dsimp only at hSw); go_simp; (try with_reducible rfl)
          (try simp only [Act.put, mD39, List.setIfInBounds_toArray, List.set_cons_zero, List.set_cons_succ])
          refine tkE 40 mD40 rfl (by kernel_rfl) (fun K hK => ?_)
          go_simp
          (refine (XC.out _ (KK.out.trans (KV2.out.trans (by first | assumption | exact Kp.drew _)))).mono ?_; rintro e w' ⟨rfl, k1⟩; have k2 := Kp.trans (show Kp V2 _ from (by first | assumption | exact Kp.drew _)) k1; clear k1)
          (try go_wp2_with fail)
          refine hK.out _ _ ?_ (fun hHeld7 => ?_)
          · (try dsimp only); exact KS.out _ (by first | assumption | exact Kp.drew _)
          clear hK K hHeld6
          (try simp only [Act.put, mD40, List.setIfInBounds_toArray, List.set_cons_zero, List.set_cons_succ])
          refine tkW (v := ?_) 41 mD41 rfl (by kernel_rfl) (by kernel_rfl) (by kernel_rfl) (fun _ _ _ h => h) (by rfl) ?_ (by assumption) ?_
          rotate_left
          · intro w hSw; (try dsimp only at hSw); go_simp; (try with_reducible rfl)
          (try simp only [Act.put, mD41, List.setIfInBounds_toArray, List.set_cons_zero, List.set_cons_succ])
          refine tkW (v := ?_) 42 mD42 rfl (by kernel_rfl) (by kernel_rfl) (by kernel_rfl) (fun _ _ _ h => h) (by rfl) ?_ (by assumption) ?_
          rotate_left
          · intro w hSw; (try dsimp only at hSw); go_simp; (try with_reducible rfl)
          (try simp only [Act.put, mD42, List.setIfInBounds_toArray, List.set_cons_zero, List.set_cons_succ])
          refine tkW (v := ?_) 43 mD43 rfl (by kernel_rfl) (by kernel_rfl) (by kernel_rfl) (fun _ _ _ h => h) (by rfl) ?_ (by assumption) ?_
          rotate_left
          · intro w hSw; (try dsimp only at hSw); go_simp; (try with_reducible rfl)
          (try simp only [Act.put, mD43, List.setIfInBounds_toArray, List.set_cons_zero, List.set_cons_succ])
          refine wpAnyH_done (by kernel_rfl) ?_ _
          go_wp2
          go_ret
          exact ⟨by first | rfl | (have := MC.out (by first | rfl | trivial); simp [this]) | simp, K00.out.trans (by first | assumption | exact Kp.drew _)⟩
      | true =>
        refine tkW (v := ?_) 25 mD25 rfl (by kernel_rfl) (by kernel_rfl) (by kernel_rfl) (fun _ _ _ h => h) (by rfl) ?_ (by assumption) ?_
        rotate_left
        · intro w hSw; (try dsimp only at hSw); go_simp; (try with_reducible rfl)
        (try simp only [Act.put, mD25, List.setIfInBounds_toArray, List.set_cons_zero, List.set_cons_succ])
        refine tkE 26 mD26 rfl (by kernel_rfl) (fun K hK => ?_)
        go_simp
        (refine (ZE.out _ (KK.out.trans (KV2.out.trans (by first | assumption | exact Kp.drew _)))).mono ?_; rintro e w' ⟨rfl, k1⟩; have k2 := Kp.trans (show Kp V2 _ from (by first | assumption | exact Kp.drew _)) k1; clear k1)
        (try go_wp2_with fail)
        refine hK.out _ _ ?_ (fun hHeld6 => ?_)
        · (try dsimp only); exact KS.out _ (by first | assumption | exact Kp.drew _)
        clear hK K hHeld5
        (try simp only [Act.put, mD26, List.setIfInBounds_toArray, List.set_cons_zero, List.set_cons_succ])
        refine tkW (v := ?_) 27 mD27 rfl (by kernel_rfl) (by kernel_rfl) (by kernel_rfl) (fun _ _ _ h => h) (by rfl) ?_ (by assumption) ?_
        rotate_left
        · intro w hSw; (try dsimp only at hSw); go_simp; (try with_reducible rfl)
        (try simp only [Act.put, mD27, List.setIfInBounds_toArray, List.set_cons_zero, List.set_cons_succ])
        refine tkW (v := ?_) 28 mD28 rfl (by kernel_rfl) (by kernel_rfl) (by kernel_rfl) (fun _ _ _ h => h) (by rfl) ?_ (by assumption) ?_
        rotate_left
        · intro w hSw; (try dsimp only at hSw); go_simp; (try with_reducible rfl)
        (try simp only [Act.put, mD28, List.setIfInBounds_toArray, List.set_cons_zero, List.set_cons_succ])
        refine tkW (v := ?_) 29 mD29 rfl (by kernel_rfl) (by kernel_rfl) (by kernel_rfl) (fun _ _ _ h => h) (by rfl) ?_ (by assumption) ?_
        rotate_left
        · intro w hSw; (try dsimp only at hSw); go_simp; (try with_reducible rfl)
        (try simp only [Act.put, mD29, List.setIfInBounds_toArray, List.set_cons_zero, List.set_cons_succ])
        refine tkW (v := ?_) 30 mD30 rfl (by kernel_rfl) (by kernel_rfl) (by kernel_rfl) (fun _ _ _ h => h) (by rfl) ?_ (by assumption) ?_
        rotate_left
        · intro w hSw; (try dsimp only at hSw); go_simp; (try with_reducible rfl)
        (try simp only [Act.put, mD30, List.setIfInBounds_toArray, List.set_cons_zero, List.set_cons_succ])
        refine tkW (v := ?_) 31 mD31 rfl (by kernel_rfl) (by kernel_rfl) (by kernel_rfl) (fun _ _ _ h => h) (by rfl) ?_ (by assumption) ?_
        rotate_left
        · intro w hSw; (try dsimp only at hSw); go_simp; (try with_reducible rfl)
        (try simp only [Act.put, mD31, List.setIfInBounds_toArray, List.set_cons_zero, List.set_cons_succ])
        refine tkW (v := ?_) 32 mD32 rfl (by kernel_rfl) (by kernel_rfl) (by kernel_rfl) (fun _ _ _ h => h) (by rfl) ?_ (by assumption) ?_
        rotate_left
        · intro w hSw; (try dsimp only at hSw); go_simp; (try with_reducible rfl)
        (try simp only [Act.put, mD32, List.setIfInBounds_toArray, List.set_cons_zero, List.set_cons_succ])
        refine tkW (v := ?_) 33 mD33 rfl (by kernel_rfl) (by kernel_rfl) (by kernel_rfl) (fun _ _ _ h => h) (by rfl) ?_ (by assumption) ?_
        rotate_left
        · intro w hSw; (try dsimp only at hSw); go_simp; (try with_reducible rfl)
        (try simp only [Act.put, mD33, List.setIfInBounds_toArray, List.set_cons_zero, List.set_cons_succ])
        refine tkE 34 mD34 rfl (by kernel_rfl) (fun K hK => ?_)
        go_simp
        (refine (YC.out _ (KK.out.trans (KV2.out.trans (by first | assumption | exact Kp.drew _)))).mono ?_; rintro e w' ⟨rfl, k1⟩; have k2 := Kp.trans (show Kp V2 _ from (by first | assumption | exact Kp.drew _)) k1; clear k1)
        (try go_wp2_with fail)
        refine hK.out _ _ ?_ (fun hHeld7 => ?_)
        · (try dsimp only); exact KS.out _ (by first | assumption | exact Kp.drew _)
        clear hK K hHeld6
        (try simp only [Act.put, mD34, List.setIfInBounds_toArray, List.set_cons_zero, List.set_cons_succ])
        cases cf with
        | false =>
          refine tkW (v := ?_) 35 mD35 rfl (by kernel_rfl) (by kernel_rfl) (by kernel_rfl) (fun _ _ _ h => h) (by rfl) ?_ (by assumption) ?_
          rotate_left
          · intro w hSw; (try dsimp only at hSw); go_simp; (try with_reducible rfl)
          (try simp only [Act.put, mD35, List.setIfInBounds_toArray, List.set_cons_zero, List.set_cons_succ])
          refine tkW (v := ?_) 36 mD36 rfl (by kernel_rfl) (by kernel_rfl) (by kernel_rfl) (fun _ _ _ h => h) (by rfl) ?_ (by assumption) ?_
          rotate_left
          · intro w hSw; (try dsimp only at hSw); go_simp; (try with_reducible rfl)
          (try simp only [Act.put, mD36, List.setIfInBounds_toArray, List.set_cons_zero, List.set_cons_succ])
          refine tkU 37 mD37 rfl (by kernel_rfl) (by kernel_rfl) (by kernel_rfl) (fun _ _ _ h => h) (by rfl) (by assumption) ?_
          (try simp only [Act.put, mD37, List.setIfInBounds_toArray, List.set_cons_zero, List.set_cons_succ])
          refine tkU 38 mD38 rfl (by kernel_rfl) (by kernel_rfl) (by kernel_rfl) (fun _ _ _ h => h) (by rfl) (by assumption) ?_
          (try simp only [Act.put, mD38, List.setIfInBounds_toArray, List.set_cons_zero, List.set_cons_succ])
          refine tkU 39 mD39 rfl (by kernel_rfl) (by kernel_rfl) (by kernel_rfl) (fun _ _ _ h => h) (by rfl) (by assumption) ?_
          (try simp only [Act.put, mD39, List.setIfInBounds_toArray, List.set_cons_zero, List.set_cons_succ])
          refine tkU 40 mD40 rfl (by kernel_rfl) (by kernel_rfl) (by kernel_rfl) (fun _ _ _ h => h) (by rfl) (by assumption) ?_
          (try simp only [Act.put, mD40, List.setIfInBounds_toArray, List.set_cons_zero, List.set_cons_succ])
          refine tkW (v := ?_) 41 mD41 rfl (by kernel_rfl) (by kernel_rfl) (by kernel_rfl) (fun _ _ _ h => h) (by rfl) ?_ (by assumption) ?_
          rotate_left
          · intro w hSw; (try dsimp only at hSw); go_simp; (try with_reducible rfl)
          (try simp only [Act.put, mD41, List.setIfInBounds_toArray, List.set_cons_zero, List.set_cons_succ])
          refine tkW (v := ?_) 42 mD42 rfl (by kernel_rfl) (by kernel_rfl) (by kernel_rfl) (fun _ _ _ h => h) (by rfl) ?_ (by assumption) ?_
          rotate_left
          · intro w hSw; (try dsimp only at hSw); go_simp; (try with_reducible rfl)
          (try simp only [Act.put, mD42, List.setIfInBounds_toArray, List.set_cons_zero, List.set_cons_succ])
          refine tkW (v := ?_) 43 mD43 rfl (by kernel_rfl) (by kernel_rfl) (by kernel_rfl) (fun _ _ _ h => h) (by rfl) ?_ (by assumption) ?_
          rotate_left
          · intro w hSw; (try dsimp only at hSw); go_simp; (try with_reducible rfl)
          (try simp only [Act.put, mD43, List.setIfInBounds_toArray, List.set_cons_zero, List.set_cons_succ])
          refine wpAnyH_done (by kernel_rfl) ?_ _
          go_wp2
          go_ret
          exact ⟨by first | rfl | (have := MC.out (by first | rfl | trivial); simp [this]) | simp, K00.out.trans (by first | assumption | exact Kp.drew _)⟩
        | true =>
          refine tkW (v := ?_) 35 mD35 rfl (by kernel_rfl) (by kernel_rfl) (by kernel_rfl) (fun _ _ _ h => h) (by rfl) ?_ (by assumption) ?_
          rotate_left
          · intro w hSw; (try dsimp only at hSw); go_simp; (try with_reducible rfl)
          (try simp only [Act.put, mD35, List.setIfInBounds_toArray, List.set_cons_zero, List.set_cons_succ])
          refine tkW (v := ?_) 36 mD36 rfl (by kernel_rfl) (by kernel_rfl) (by kernel_rfl) (fun _ _ _ h => h) (by rfl) ?_ (by assumption) ?_
          rotate_left
          · intro w hSw; (try dsimp only at hSw); go_simp; (try with_reducible rfl)
          (try simp only [Act.put, mD36, List.setIfInBounds_toArray, List.set_cons_zero, List.set_cons_succ])
          refine tkW (v := ?_) 37 mD37 rfl (by kernel_rfl) (by kernel_rfl) (by kernel_rfl) (fun _ _ _ h => h) (by rfl) ?_ (by assumption) ?_
          rotate_left
          · intro w hSw; (try dsimp only at hSw); go_simp; (try with_reducible rfl)
          (try simp only [Act.put, mD37, List.setIfInBounds_toArray, List.set_cons_zero, List.set_cons_succ])
          refine tkW (v := ?_) 38 mD38 rfl (by kernel_rfl) (by kernel_rfl) (by kernel_rfl) (fun _ _ _ h => h) (by rfl) ?_ (by assumption) ?_
          rotate_left
          · intro w hSw; (try dsimp only at hSw); go_simp; (try with_reducible rfl)
          (try simp only [Act.put, mD38, List.setIfInBounds_toArray, List.set_cons_zero, List.set_cons_succ])
          refine tkW (v := ?_) 39 mD39 rfl (by kernel_rfl) (by kernel_rfl) (by kernel_rfl) (fun _ _ _ h => h) (by rfl) ?_ (by assumption) ?_
          rotate_left
          · intro w hSw; (try dsimp only at hSw); go_simp; (try with_reducible rfl)
          (try simp only [Act.put, mD39, List.setIfInBounds_toArray, List.set_cons_zero, List.set_cons_succ])
          refine tkE 40 mD40 rfl (by kernel_rfl) (fun K hK => ?_)
          go_simp
          (refine (XC.out _ (KK.out.trans (KV2.out.trans (by first | assumption | exact Kp.drew _)))).mono ?_; rintro e w' ⟨rfl, k1⟩; have k2 := Kp.trans (show Kp V2 _ from (by first | assumption | exact Kp.drew _)) k1; clear k1)
          (try go_wp2_with fail)
          refine hK.out _ _ ?_ (fun hHeld8 => ?_)
          · (try dsimp only); exact KS.out _ (by first | assumption | exact Kp.drew _)
          clear hK K hHeld7
          (try simp only [Act.put, mD40, List.setIfInBounds_toArray, List.set_cons_zero, List.set_cons_succ])
          refine tkW (v := ?_) 41 mD41 rfl (by kernel_rfl) (by kernel_rfl) (by kernel_rfl) (fun _ _ _ h => h) (by rfl) ?_ (by assumption) ?_
          rotate_left
          · intro w hSw; (try dsimp only at hSw); go_simp; (try with_reducible rfl)
          (try simp only [Act.put, mD41, List.setIfInBounds_toArray, List.set_cons_zero, List.set_cons_succ])
          refine tkW (v := ?_) 42 mD42 rfl (by kernel_rfl) (by kernel_rfl) (by kernel_rfl) (fun _ _ _ h => h) (by rfl) ?_ (by assumption) ?_
          rotate_left
          · intro w hSw; (try dsimp only at hSw); go_simp; (try with_reducible rfl)
          (try simp only [Act.put, mD42, List.setIfInBounds_toArray, List.set_cons_zero, List.set_cons_succ])
          refine tkW (v := ?_) 43 mD43 rfl (by kernel_rfl) (by kernel_rfl) (by kernel_rfl) (fun _ _ _ h => h) (by rfl) ?_ (by assumption) ?_
          rotate_left
          · intro w hSw; (try dsimp only at hSw); go_simp; (try with_reducible rfl)
          (try simp only [Act.put, mD43, List.setIfInBounds_toArray, List.set_cons_zero, List.set_cons_succ])
          refine wpAnyH_done (by kernel_rfl) ?_ _
          go_wp2
          go_ret
          exact ⟨by first | rfl | (have := MC.out (by first | rfl | trivial); simp [this]) | simp, K00.out.trans (by first | assumption | exact Kp.drew _)⟩
  · go_simp
    skip
    (try go_wp2_with fail)
    refine hK.out _ _ ?_ (fun hHeld1 => ?_)
    · (try dsimp only); exact KS.out _ (by first | exact Kp.drew _ | exact (Kp.drew _).trans (Kp.alloc _ _) | assumption | exact Kp.trans k2 (Kp.alloc _ _) | exact set4_below k2 w5.heap.size (Nat.le_refl _) _ _ _ _)
    clear hK K hHeld0
    (try simp only [Act.put, mC12, List.setIfInBounds_toArray, List.set_cons_zero, List.set_cons_succ])
    refine tkE 8 mC8 rfl (by kernel_rfl) (fun K hK => ?_)
    go_simp
    (refine (HU'.out _ (K5.out.trans (by first | exact Kp.drew _ | exact (Kp.drew _).trans (Kp.alloc _ _)))).mono ?_; rintro e w' ⟨vu, rfl, ownu, k1⟩; obtain ⟨adu, cpu, rfl⟩ := own_slice ownu; have RU := Lib.hid (runsAt_own ownu); clear ownu; have k2 := Kp.trans (show Kp w5 _ from (by first | exact Kp.drew _ | exact (Kp.drew _).trans (Kp.alloc _ _))) k1; have hbk : w'.heap[w5.heap.size]? = some _ := heap_block k1 (heap_at _ _ _ rfl); have hc0 : w'.cell? ⟨w5.heap.size, 0, none⟩ = some (.bool false) := (by simp [World.cell?, hbk]); have hz0 : w'.frozen? ⟨w5.heap.size, 0, none⟩ = false := (by simp [World.frozen?, hbk]); have hc1 : w'.cell? ⟨w5.heap.size, 1, none⟩ = some (.int .i64 0) := (by simp [World.cell?, hbk]); have hz1 : w'.frozen? ⟨w5.heap.size, 1, none⟩ = false := (by simp [World.frozen?, hbk]); have hc2 : w'.cell? ⟨w5.heap.size, 2, none⟩ = some (.slice none 0 0) := (by simp [World.cell?, hbk]); have hz2 : w'.frozen? ⟨w5.heap.size, 2, none⟩ = false := (by simp [World.frozen?, hbk]); have hc3 : w'.cell? ⟨w5.heap.size, 3, none⟩ = some (.slice none 0 0) := (by simp [World.cell?, hbk]); have hz3 : w'.frozen? ⟨w5.heap.size, 3, none⟩ = false := (by simp [World.frozen?, hbk]))
    (try go_wp2_with fail)
    refine hK.out _ _ ?_ (fun hHeld2 => ?_)
    · (try dsimp only); exact KS.out _ (by first | exact Kp.drew _ | exact (Kp.drew _).trans (Kp.alloc _ _) | assumption | exact Kp.trans k2 (Kp.alloc _ _) | exact set4_below k2 w5.heap.size (Nat.le_refl _) _ _ _ _)
    clear hK K hHeld1
    (try simp only [Act.put, mC8, List.setIfInBounds_toArray, List.set_cons_zero, List.set_cons_succ])
    refine tkW (v := ?_) 11 mC11 rfl (by kernel_rfl) (by kernel_rfl) (by kernel_rfl) (fun _ _ _ h => h) (by rfl) ?_ (by assumption) ?_
    rotate_left
    · intro w hSw; (try dsimp only at hSw); go_simp; (try with_reducible rfl)
    (try simp only [Act.put, mC11, List.setIfInBounds_toArray, List.set_cons_zero, List.set_cons_succ])
    refine tkE 13 mC13 rfl (by kernel_rfl) (fun K hK => ?_)
    go_simp
    skip
    (try go_wp2_with fail)
    refine hK.out _ _ ?_ (fun hHeld3 => ?_)
    · (try dsimp only); exact KS.out _ (by first | exact Kp.drew _ | exact (Kp.drew _).trans (Kp.alloc _ _) | assumption | exact Kp.trans k2 (Kp.alloc _ _) | exact set4_below k2 w5.heap.size (Nat.le_refl _) _ _ _ _)
    clear hK K hHeld2
    (try simp only [Act.put, mC13, List.setIfInBounds_toArray, List.set_cons_zero, List.set_cons_succ])
    refine wpAnyH_done (by kernel_rfl) ?_ _
    obtain ⟨wu, hwu⟩ : ∃ x : World, x = w' := ⟨_, rfl⟩
    subst hwu
    obtain ⟨V, hV⟩ : ∃ x, x = ((((wu.setCell ⟨w5.heap.size, 0, none⟩ (.bool false)).setCell ⟨w5.heap.size, 1, none⟩ (.int .i64 uf)).setCell ⟨w5.heap.size, 2, none⟩ (.slice adu U.length cpu)).setCell ⟨w5.heap.size, 3, none⟩ (.slice bdf bf.length cbf)) := ⟨_, rfl⟩
    have ka : Kp w5 V := by rw [hV]; exact set4_below k2 w5.heap.size (Nat.le_refl _) _ _ _ _
    have q0 : V.cell? ⟨w5.heap.size, 0, none⟩ = some (.bool false) := by rw [hV]; exact (set4_read hbk _ _ _ _ (Kp.refl _)).1
    have q1 : V.cell? ⟨w5.heap.size, 1, none⟩ = some (.int .i64 uf) := by rw [hV]; exact (set4_read hbk _ _ _ _ (Kp.refl _)).2.1
    have q2 : V.cell? ⟨w5.heap.size, 2, none⟩ = some (.slice adu U.length cpu) := by rw [hV]; exact (set4_read hbk _ _ _ _ (Kp.refl _)).2.2.1
    have q3 : V.cell? ⟨w5.heap.size, 3, none⟩ = some (.slice bdf bf.length cbf) := by rw [hV]; exact (set4_read hbk _ _ _ _ (Kp.refl _)).2.2.2
    have HB2 := Lib.hid (fun w1 (k : Kp V w1) => show w1.cell? ⟨w.heap.size, 0, none⟩ = some (.bool false) ∧ w1.cell? ⟨w.heap.size, 1, none⟩ = some (.int .i64 uf) ∧ w1.cell? ⟨w.heap.size, 2, none⟩ = some (.slice adf af.length caf) ∧ w1.cell? ⟨w.heap.size, 3, none⟩ = some (.slice bdf bf.length cbf) ∧ w1.cell? ⟨w.heap.size + 1, 0, none⟩ = some (.bool false) ∧ w1.cell? ⟨w.heap.size + 1, 1, none⟩ = some (.int .i64 ug) ∧ w1.cell? ⟨w.heap.size + 1, 2, none⟩ = some (.slice adg ag.length cag) ∧ w1.cell? ⟨w.heap.size + 1, 3, none⟩ = some (.slice bdg bg.length cbg) ∧ w1.cell? ⟨w.heap.size + 1 + 1, 0, none⟩ = some (.int .i64 pS) ∧ w1.cell? ⟨w.heap.size + 1 + 1, 1, none⟩ = some (.int .i64 pE) ∧ w1.cell? ⟨w5.heap.size, 0, none⟩ = some (.bool false) ∧ w1.cell? ⟨w5.heap.size, 1, none⟩ = some (.int .i64 uf) ∧ w1.cell? ⟨w5.heap.size, 2, none⟩ = some (.slice adu U.length cpu) ∧ w1.cell? ⟨w5.heap.size, 3, none⟩ = some (.slice bdf bf.length cbf) from ⟨(HB.out w1 (K5.out.trans (ka.trans k))).1, (HB.out w1 (K5.out.trans (ka.trans k))).2.1, (HB.out w1 (K5.out.trans (ka.trans k))).2.2.1, (HB.out w1 (K5.out.trans (ka.trans k))).2.2.2.1, (HB.out w1 (K5.out.trans (ka.trans k))).2.2.2.2.1, (HB.out w1 (K5.out.trans (ka.trans k))).2.2.2.2.2.1, (HB.out w1 (K5.out.trans (ka.trans k))).2.2.2.2.2.2.1, (HB.out w1 (K5.out.trans (ka.trans k))).2.2.2.2.2.2.2.1, (HB.out w1 (K5.out.trans (ka.trans k))).2.2.2.2.2.2.2.2.1, (HB.out w1 (K5.out.trans (ka.trans k))).2.2.2.2.2.2.2.2.2, cell_up k q0, cell_up k q1, cell_up k q2, cell_up k q3⟩)
    have K01 := Lib.hid (K00.out.trans (K5.out.trans ka))
    have RV : RunsAt V (.slice adu U.length cpu) U := by rw [hV]; exact RU.out.off hbk (fun k o h => set4_cell wu _ _ _ _ _ k o h)
    have XS := Lib.hid (fun w1 (kk : Kp V w1) => SH.out w1 _ (K01.out.trans kk) (RV.kp kk))
    have XH := Lib.hid (fun w1 (kk : Kp V w1) => HH.out w1 _ (K01.out.trans kk) (RV.kp kk))
    have XE := Lib.hid (fun w1 (kk : Kp V w1) => EH.out w1 _ (K01.out.trans kk) (RV.kp kk))
    have XC := Lib.hid (fun w1 (kk : Kp V w1) => CH.out w1 _ (K01.out.trans kk) (RV.kp kk))
    have YH := Lib.hid (fun w1 (kk : Kp V w1) => HF.out w1 (K01.out.trans kk))
    have YE := Lib.hid (fun w1 (kk : Kp V w1) => EF.out w1 (K01.out.trans kk))
    have YC := Lib.hid (fun w1 (kk : Kp V w1) => CF.out w1 (K01.out.trans kk))
    have ZH := Lib.hid (fun w1 (kk : Kp V w1) => HX.out w1 (K01.out.trans kk))
    have ZE := Lib.hid (fun w1 (kk : Kp V w1) => EX.out w1 (K01.out.trans kk))
    clear RV SH HH EH CH HF EF CF HX EX RU HU'
    clear HB K00 c0 c1 c2 c3 c4 c5 c6 c7 c8 c9 q0 q1 q2 q3
    have HB := HB2
    have K00 := K01
    clear HB2 K01
    have KV := Lib.hid (Kp.refl V)
    have HV := Lib.hid hV
    clear hV ka
    rw [← HV.out]
    obtain ⟨c0, c1, c2, c3, c4, c5, c6, c7, c8, c9, c10, c11, c12, c13⟩ := HB.out V (Kp.refl _)
    clear k2 k1 hbk hc0 hc1 hc2 hc3 hz0 hz1 hz2 hz3
    obtain ⟨V2, hV⟩ : ∃ x, x = V.alloc (.cells #[.bool false, .int .i64 ug, .slice adg ag.length cag, .slice bdf bf.length cbf] 24) := ⟨_, rfl⟩
    have ka : Kp V V2 := by rw [hV]; exact Kp.alloc _ _
    have hgq : V2.heap[V.heap.size]? = some (.cells #[.bool false, .int .i64 ug, .slice adg ag.length cag, .slice bdf bf.length cbf] 24 (0, 0)) := by rw [hV]; exact heap_at _ _ _ rfl
    have q0 : V2.cell? ⟨V.heap.size, 0, none⟩ = some (.bool false) := by simp [World.cell?, hgq]
    have q1 : V2.cell? ⟨V.heap.size, 1, none⟩ = some (.int .i64 ug) := by simp [World.cell?, hgq]
    have q2 : V2.cell? ⟨V.heap.size, 2, none⟩ = some (.slice adg ag.length cag) := by simp [World.cell?, hgq]
    have q3 : V2.cell? ⟨V.heap.size, 3, none⟩ = some (.slice bdf bf.length cbf) := by simp [World.cell?, hgq]
    have HB2 := Lib.hid (fun w1 (k : Kp V2 w1) => show w1.cell? ⟨w.heap.size, 0, none⟩ = some (.bool false) ∧ w1.cell? ⟨w.heap.size, 1, none⟩ = some (.int .i64 uf) ∧ w1.cell? ⟨w.heap.size, 2, none⟩ = some (.slice adf af.length caf) ∧ w1.cell? ⟨w.heap.size, 3, none⟩ = some (.slice bdf bf.length cbf) ∧ w1.cell? ⟨w.heap.size + 1, 0, none⟩ = some (.bool false) ∧ w1.cell? ⟨w.heap.size + 1, 1, none⟩ = some (.int .i64 ug) ∧ w1.cell? ⟨w.heap.size + 1, 2, none⟩ = some (.slice adg ag.length cag) ∧ w1.cell? ⟨w.heap.size + 1, 3, none⟩ = some (.slice bdg bg.length cbg) ∧ w1.cell? ⟨w.heap.size + 1 + 1, 0, none⟩ = some (.int .i64 pS) ∧ w1.cell? ⟨w.heap.size + 1 + 1, 1, none⟩ = some (.int .i64 pE) ∧ w1.cell? ⟨w5.heap.size, 0, none⟩ = some (.bool false) ∧ w1.cell? ⟨w5.heap.size, 1, none⟩ = some (.int .i64 uf) ∧ w1.cell? ⟨w5.heap.size, 2, none⟩ = some (.slice adu U.length cpu) ∧ w1.cell? ⟨w5.heap.size, 3, none⟩ = some (.slice bdf bf.length cbf) ∧ w1.cell? ⟨V.heap.size, 0, none⟩ = some (.bool false) ∧ w1.cell? ⟨V.heap.size, 1, none⟩ = some (.int .i64 ug) ∧ w1.cell? ⟨V.heap.size, 2, none⟩ = some (.slice adg ag.length cag) ∧ w1.cell? ⟨V.heap.size, 3, none⟩ = some (.slice bdf bf.length cbf) from ⟨(HB.out w1 (KV.out.trans (ka.trans k))).1, (HB.out w1 (KV.out.trans (ka.trans k))).2.1, (HB.out w1 (KV.out.trans (ka.trans k))).2.2.1, (HB.out w1 (KV.out.trans (ka.trans k))).2.2.2.1, (HB.out w1 (KV.out.trans (ka.trans k))).2.2.2.2.1, (HB.out w1 (KV.out.trans (ka.trans k))).2.2.2.2.2.1, (HB.out w1 (KV.out.trans (ka.trans k))).2.2.2.2.2.2.1, (HB.out w1 (KV.out.trans (ka.trans k))).2.2.2.2.2.2.2.1, (HB.out w1 (KV.out.trans (ka.trans k))).2.2.2.2.2.2.2.2.1, (HB.out w1 (KV.out.trans (ka.trans k))).2.2.2.2.2.2.2.2.2.1, (HB.out w1 (KV.out.trans (ka.trans k))).2.2.2.2.2.2.2.2.2.2.1, (HB.out w1 (KV.out.trans (ka.trans k))).2.2.2.2.2.2.2.2.2.2.2.1, (HB.out w1 (KV.out.trans (ka.trans k))).2.2.2.2.2.2.2.2.2.2.2.2.1, (HB.out w1 (KV.out.trans (ka.trans k))).2.2.2.2.2.2.2.2.2.2.2.2.2, cell_up k q0, cell_up k q1, cell_up k q2, cell_up k q3⟩)
    have K01 := Lib.hid (K00.out.trans (KV.out.trans ka))
    have KK := Lib.hid ka
    clear HB K00 hgq  q0 q1 q2 q3
    have HB := HB2
    have K00 := K01
    clear HB2 K01
    have KV2 := Lib.hid (Kp.refl V2)
    have HV2 := Lib.hid hV
    clear hV ka
    go_wp2_with fail
    rw [← HV2.out]
    clear c0 c1 c2 c3 c4 c5 c6 c7 c8 c9 c10 c11 c12 c13
    obtain ⟨c0, c1, c2, c3, c4, c5, c6, c7, c8, c9, c10, c11, c12, c13, c14, c15, c16, c17⟩ := HB.out V2 (Kp.refl _)
    have eb : (bx == bx) = true := by simp
    have ee : (ex == ex) = true := by simp
    have KS := Lib.hid (fun w' (kq : Kp V2 w') => show w'.cell? ⟨w.heap.size, 0, none⟩ = some (.bool false) ∧ w'.cell? ⟨w.heap.size, 1, none⟩ = some (.int .i64 uf) ∧ w'.cell? ⟨w.heap.size, 2, none⟩ = some (.slice adf af.length caf) ∧ w'.cell? ⟨w.heap.size, 3, none⟩ = some (.slice bdf bf.length cbf) ∧ w'.cell? ⟨w.heap.size + 1, 0, none⟩ = some (.bool false) ∧ w'.cell? ⟨w.heap.size + 1, 1, none⟩ = some (.int .i64 ug) ∧ w'.cell? ⟨w.heap.size + 1, 2, none⟩ = some (.slice adg ag.length cag) ∧ w'.cell? ⟨w.heap.size + 1, 3, none⟩ = some (.slice bdg bg.length cbg) ∧ w'.cell? ⟨w.heap.size + 1 + 1, 0, none⟩ = some (.int .i64 pS) ∧ w'.cell? ⟨w.heap.size + 1 + 1, 1, none⟩ = some (.int .i64 pE) ∧ w'.cell? ⟨w5.heap.size, 0, none⟩ = some (.bool false) ∧ w'.cell? ⟨w5.heap.size, 1, none⟩ = some (.int .i64 uf) ∧ w'.cell? ⟨w5.heap.size, 2, none⟩ = some (.slice adu U.length cpu) ∧ w'.cell? ⟨w5.heap.size, 3, none⟩ = some (.slice bdf bf.length cbf) ∧ w'.cell? ⟨V.heap.size, 0, none⟩ = some (.bool false) ∧ w'.cell? ⟨V.heap.size, 1, none⟩ = some (.int .i64 ug) ∧ w'.cell? ⟨V.heap.size, 2, none⟩ = some (.slice adg ag.length cag) ∧ w'.cell? ⟨V.heap.size, 3, none⟩ = some (.slice bdf bf.length cbf) ∧ Kp V2 w' from ⟨(HB.out w' (KV2.out.trans kq)).1, (HB.out w' (KV2.out.trans kq)).2.1, (HB.out w' (KV2.out.trans kq)).2.2.1, (HB.out w' (KV2.out.trans kq)).2.2.2.1, (HB.out w' (KV2.out.trans kq)).2.2.2.2.1, (HB.out w' (KV2.out.trans kq)).2.2.2.2.2.1, (HB.out w' (KV2.out.trans kq)).2.2.2.2.2.2.1, (HB.out w' (KV2.out.trans kq)).2.2.2.2.2.2.2.1, (HB.out w' (KV2.out.trans kq)).2.2.2.2.2.2.2.2.1, (HB.out w' (KV2.out.trans kq)).2.2.2.2.2.2.2.2.2.1, (HB.out w' (KV2.out.trans kq)).2.2.2.2.2.2.2.2.2.2.1, (HB.out w' (KV2.out.trans kq)).2.2.2.2.2.2.2.2.2.2.2.1, (HB.out w' (KV2.out.trans kq)).2.2.2.2.2.2.2.2.2.2.2.2.1, (HB.out w' (KV2.out.trans kq)).2.2.2.2.2.2.2.2.2.2.2.2.2.1, (HB.out w' (KV2.out.trans kq)).2.2.2.2.2.2.2.2.2.2.2.2.2.2.1, (HB.out w' (KV2.out.trans kq)).2.2.2.2.2.2.2.2.2.2.2.2.2.2.2.1, (HB.out w' (KV2.out.trans kq)).2.2.2.2.2.2.2.2.2.2.2.2.2.2.2.2.1, (HB.out w' (KV2.out.trans kq)).2.2.2.2.2.2.2.2.2.2.2.2.2.2.2.2.2, kq⟩)
    go_wp2_with fail
    refine wp_region_held_drew (S := fun w' => w'.cell? ⟨w.heap.size, 0, none⟩ = some (.bool false) ∧ w'.cell? ⟨w.heap.size, 1, none⟩ = some (.int .i64 uf) ∧ w'.cell? ⟨w.heap.size, 2, none⟩ = some (.slice adf af.length caf) ∧ w'.cell? ⟨w.heap.size, 3, none⟩ = some (.slice bdf bf.length cbf) ∧ w'.cell? ⟨w.heap.size + 1, 0, none⟩ = some (.bool false) ∧ w'.cell? ⟨w.heap.size + 1, 1, none⟩ = some (.int .i64 ug) ∧ w'.cell? ⟨w.heap.size + 1, 2, none⟩ = some (.slice adg ag.length cag) ∧ w'.cell? ⟨w.heap.size + 1, 3, none⟩ = some (.slice bdg bg.length cbg) ∧ w'.cell? ⟨w.heap.size + 1 + 1, 0, none⟩ = some (.int .i64 pS) ∧ w'.cell? ⟨w.heap.size + 1 + 1, 1, none⟩ = some (.int .i64 pE) ∧ w'.cell? ⟨w5.heap.size, 0, none⟩ = some (.bool false) ∧ w'.cell? ⟨w5.heap.size, 1, none⟩ = some (.int .i64 uf) ∧ w'.cell? ⟨w5.heap.size, 2, none⟩ = some (.slice adu U.length cpu) ∧ w'.cell? ⟨w5.heap.size, 3, none⟩ = some (.slice bdf bf.length cbf) ∧ w'.cell? ⟨V.heap.size, 0, none⟩ = some (.bool false) ∧ w'.cell? ⟨V.heap.size, 1, none⟩ = some (.int .i64 ug) ∧ w'.cell? ⟨V.heap.size, 2, none⟩ = some (.slice adg ag.length cag) ∧ w'.cell? ⟨V.heap.size, 3, none⟩ = some (.slice bdf bf.length cbf) ∧ Kp V2 w') (by kernel_rfl) ?_ (fun hHeld0 => ?_)
    · (try dsimp only); exact KS.out _ (by first | assumption | exact Kp.drew _)
    refine tkW (v := ?_) 0 mD0 rfl (by kernel_rfl) (by kernel_rfl) (by kernel_rfl) (fun _ _ _ h => h) (by rfl) ?_ (by assumption) ?_
    rotate_left
    · intro w hSw; (try dsimp only at hSw); go_simp; (try with_reducible rfl)
    (try simp only [Act.put, mD0, List.setIfInBounds_toArray, List.set_cons_zero, List.set_cons_succ])
    refine tkW (v := ?_) 1 mD1 rfl (by kernel_rfl) (by kernel_rfl) (by kernel_rfl) (fun _ _ _ h => h) (by rfl) ?_ (by assumption) ?_
    rotate_left
    · intro w hSw; (try dsimp only at hSw); go_simp; (try with_reducible rfl)
    (try simp only [Act.put, mD1, List.setIfInBounds_toArray, List.set_cons_zero, List.set_cons_succ])
    refine tkW (v := ?_) 2 mD2 rfl (by kernel_rfl) (by kernel_rfl) (by kernel_rfl) (fun _ _ _ h => h) (by rfl) ?_ (by assumption) ?_
    rotate_left
    · intro w hSw; (try dsimp only at hSw); go_simp; (try with_reducible rfl)
    (try simp only [Act.put, mD2, List.setIfInBounds_toArray, List.set_cons_zero, List.set_cons_succ])
    refine tkE 3 mD3 rfl (by kernel_rfl) (fun K hK => ?_)
    go_simp
    (refine (XS.out _ (KK.out.trans (KV2.out.trans (by first | assumption | exact Kp.drew _)))).mono ?_; rintro e w' ⟨rfl, k1⟩; have k2 := Kp.trans (show Kp V2 _ from (by first | assumption | exact Kp.drew _)) k1; clear k1)
    (try go_wp2_with fail)
    refine hK.out _ _ ?_ (fun hHeld1 => ?_)
    · (try dsimp only); exact KS.out _ (by first | assumption | exact Kp.drew _)
    clear hK K hHeld0
    (try simp only [Act.put, mD3, List.setIfInBounds_toArray, List.set_cons_zero, List.set_cons_succ])
    refine tkW (v := ?_) 4 mD4 rfl (by kernel_rfl) (by kernel_rfl) (by kernel_rfl) (fun _ _ _ h => h) (by rfl) ?_ (by assumption) ?_
    rotate_left
    · intro w hSw; (try dsimp only at hSw); go_simp; (try with_reducible rfl)
    (try simp only [Act.put, mD4, List.setIfInBounds_toArray, List.set_cons_zero, List.set_cons_succ])
    refine tkW (v := ?_) 5 mD5 rfl (by kernel_rfl) (by kernel_rfl) (by kernel_rfl) (fun _ _ _ h => h) (by rfl) ?_ (by assumption) ?_
    rotate_left
    · intro w hSw; (try dsimp only at hSw); go_simp; (try with_reducible rfl)
    (try simp only [Act.put, mD5, List.setIfInBounds_toArray, List.set_cons_zero, List.set_cons_succ])
    refine tkW (v := ?_) 6 mD6 rfl (by kernel_rfl) (by kernel_rfl) (by kernel_rfl) (fun _ _ _ h => h) (by rfl) ?_ (by assumption) ?_
    rotate_left
    · intro w hSw; (try dsimp only at hSw); go_simp; (try with_reducible rfl)
    (try simp only [Act.put, mD6, List.setIfInBounds_toArray, List.set_cons_zero, List.set_cons_succ])
    refine tkW (v := ?_) 7 mD7 rfl (by kernel_rfl) (by kernel_rfl) (by kernel_rfl) (fun _ _ _ h => h) (by rfl) ?_ (by assumption) ?_
    rotate_left
    · intro w hSw; (try dsimp only at hSw); go_simp; (try with_reducible rfl)
    (try simp only [Act.put, mD7, List.setIfInBounds_toArray, List.set_cons_zero, List.set_cons_succ])
    refine tkW (v := ?_) 9 mD9 rfl (by kernel_rfl) (by kernel_rfl) (by kernel_rfl) (fun _ _ _ h => h) (by rfl) ?_ (by assumption) ?_
    rotate_left
    · intro w hSw; (try dsimp only at hSw); go_simp; (try with_reducible rfl)
    (try simp only [Act.put, mD9, List.setIfInBounds_toArray, List.set_cons_zero, List.set_cons_succ])
    refine tkW (v := ?_) 10 mD10 rfl (by kernel_rfl) (by kernel_rfl) (by kernel_rfl) (fun _ _ _ h => h) (by rfl) ?_ (by assumption) ?_
    rotate_left
    · intro w hSw; (try dsimp only at hSw); go_simp; (try with_reducible rfl)
    (try simp only [Act.put, mD10, List.setIfInBounds_toArray, List.set_cons_zero, List.set_cons_succ])
    refine tkE 8 mD8 rfl (by kernel_rfl) (fun K hK => ?_)
    go_simp
    (refine (XH.out _ (KK.out.trans (KV2.out.trans (by first | assumption | exact Kp.drew _)))).mono ?_; rintro e w' ⟨rfl, k1⟩; have k2 := Kp.trans (show Kp V2 _ from (by first | assumption | exact Kp.drew _)) k1; clear k1)
    (try go_wp2_with fail)
    refine hK.out _ _ ?_ (fun hHeld2 => ?_)
    · (try dsimp only); exact KS.out _ (by first | assumption | exact Kp.drew _)
    clear hK K hHeld1
    (try simp only [Act.put, mD8, List.setIfInBounds_toArray, List.set_cons_zero, List.set_cons_succ])
    refine tkE 11 mD11 rfl (by kernel_rfl) (fun K hK => ?_)
    go_simp
    (refine (YH.out _ (KK.out.trans (KV2.out.trans (by first | assumption | exact Kp.drew _)))).mono ?_; rintro e w' ⟨rfl, k1⟩; have k2 := Kp.trans (show Kp V2 _ from (by first | assumption | exact Kp.drew _)) k1; clear k1)
    (try go_wp2_with fail)
    refine hK.out _ _ ?_ (fun hHeld3 => ?_)
    · (try dsimp only); exact KS.out _ (by first | assumption | exact Kp.drew _)
    clear hK K hHeld2
    (try simp only [Act.put, mD11, List.setIfInBounds_toArray, List.set_cons_zero, List.set_cons_succ])
    refine tkW (v := ?_) 12 mD12 rfl (by kernel_rfl) (by kernel_rfl) (by kernel_rfl) (fun _ _ _ h => h) (by rfl) ?_ (by assumption) ?_
    rotate_left
    · intro w hSw; (try dsimp only at hSw); go_simp; (try with_reducible rfl)
    (try simp only [Act.put, mD12, List.setIfInBounds_toArray, List.set_cons_zero, List.set_cons_succ])
    cases bf' with
    | false =>
      refine tkW (v := ?_) 13 mD13 rfl (by kernel_rfl) (by kernel_rfl) (by kernel_rfl) (fun _ _ _ h => h) (by rfl) ?_ (by assumption) ?_
      rotate_left
      · intro w hSw; (try dsimp only at hSw); go_simp; (try with_reducible rfl)
      (try simp only [Act.put, mD13, List.setIfInBounds_toArray, List.set_cons_zero, List.set_cons_succ])
      refine tkW (v := ?_) 14 mD14 rfl (by kernel_rfl) (by kernel_rfl) (by kernel_rfl) (fun _ _ _ h => h) (by rfl) ?_ (by assumption) ?_
      rotate_left
      · intro w hSw; (try dsimp only at hSw); go_simp; (try with_reducible rfl)
      (try simp only [Act.put, mD14, List.setIfInBounds_toArray, List.set_cons_zero, List.set_cons_succ])
      refine tkE 15 mD15 rfl (by kernel_rfl) (fun K hK => ?_)
      go_simp
      (refine (ZH.out _ (KK.out.trans (KV2.out.trans (by first | assumption | exact Kp.drew _)))).mono ?_; rintro e w' ⟨rfl, k1⟩; have k2 := Kp.trans (show Kp V2 _ from (by first | assumption | exact Kp.drew _)) k1; clear k1)
      (try go_wp2_with fail)
      refine hK.out _ _ ?_ (fun hHeld4 => ?_)
      · (try dsimp only); exact KS.out _ (by first | assumption | exact Kp.drew _)
      clear hK K hHeld3
      (try simp only [Act.put, mD15, List.setIfInBounds_toArray, List.set_cons_zero, List.set_cons_succ])
      refine tkW (v := ?_) 16 mD16 rfl (by kernel_rfl) (by kernel_rfl) (by kernel_rfl) (fun _ _ _ h => h) (by rfl) ?_ (by assumption) ?_
      rotate_left
      · intro w hSw; (try dsimp only at hSw); go_simp; (try with_reducible rfl)
      (try simp only [Act.put, mD16, List.setIfInBounds_toArray, List.set_cons_zero, List.set_cons_succ])
      refine tkW (v := ?_) 17 mD17 rfl (by kernel_rfl) (by kernel_rfl) (by kernel_rfl) (fun _ _ _ h => h) (by rfl) ?_ (by assumption) ?_
      rotate_left
      · intro w hSw; (try dsimp only at hSw); go_simp; (try with_reducible rfl)
      (try simp only [Act.put, mD17, List.setIfInBounds_toArray, List.set_cons_zero, List.set_cons_succ])
      refine tkW (v := ?_) 18 mD18 rfl (by kernel_rfl) (by kernel_rfl) (by kernel_rfl) (fun _ _ _ h => h) (by rfl) ?_ (by assumption) ?_
      rotate_left
      · intro w hSw; (try dsimp only at hSw); go_simp; (try with_reducible rfl)
      (try simp only [Act.put, mD18, List.setIfInBounds_toArray, List.set_cons_zero, List.set_cons_succ])
      refine tkW (v := ?_) 19 mD19 rfl (by kernel_rfl) (by kernel_rfl) (by kernel_rfl) (fun _ _ _ h => h) (by rfl) ?_ (by assumption) ?_
      rotate_left
      · intro w hSw; (try dsimp only at hSw); go_simp; (try with_reducible rfl)
      (try simp only [Act.put, mD19, List.setIfInBounds_toArray, List.set_cons_zero, List.set_cons_succ])
      refine tkW (v := ?_) 20 mD20 rfl (by kernel_rfl) (by kernel_rfl) (by kernel_rfl) (fun _ _ _ h => h) (by rfl) ?_ (by assumption) ?_
      rotate_left
      · intro w hSw; (try dsimp only at hSw); go_simp; (try with_reducible rfl)
      (try simp only [Act.put, mD20, List.setIfInBounds_toArray, List.set_cons_zero, List.set_cons_succ])
      refine tkW (v := ?_) 22 mD22 rfl (by kernel_rfl) (by kernel_rfl) (by kernel_rfl) (fun _ _ _ h => h) (by rfl) ?_ (by assumption) ?_
      rotate_left
      · intro w hSw; (try dsimp only at hSw); go_simp; (try with_reducible rfl)
      (try simp only [Act.put, mD22, List.setIfInBounds_toArray, List.set_cons_zero, List.set_cons_succ])
      refine tkE 21 mD21 rfl (by kernel_rfl) (fun K hK => ?_)
      go_simp
      (refine (XE.out _ (KK.out.trans (KV2.out.trans (by first | assumption | exact Kp.drew _)))).mono ?_; rintro e w' ⟨rfl, k1⟩; have k2 := Kp.trans (show Kp V2 _ from (by first | assumption | exact Kp.drew _)) k1; clear k1)
      (try go_wp2_with fail)
      refine hK.out _ _ ?_ (fun hHeld5 => ?_)
      · (try dsimp only); exact KS.out _ (by first | assumption | exact Kp.drew _)
      clear hK K hHeld4
      (try simp only [Act.put, mD21, List.setIfInBounds_toArray, List.set_cons_zero, List.set_cons_succ])
      refine tkE 23 mD23 rfl (by kernel_rfl) (fun K hK => ?_)
      go_simp
      (refine (YE.out _ (KK.out.trans (KV2.out.trans (by first | assumption | exact Kp.drew _)))).mono ?_; rintro e w' ⟨rfl, k1⟩; have k2 := Kp.trans (show Kp V2 _ from (by first | assumption | exact Kp.drew _)) k1; clear k1)
      (try go_wp2_with fail)
      refine hK.out _ _ ?_ (fun hHeld6 => ?_)
      · (try dsimp only); exact KS.out _ (by first | assumption | exact Kp.drew _)
      clear hK K hHeld5
      (try simp only [Act.put, mD23, List.setIfInBounds_toArray, List.set_cons_zero, List.set_cons_succ])
      refine tkW (v := ?_) 24 mD24 rfl (by kernel_rfl) (by kernel_rfl) (by kernel_rfl) (fun _ _ _ h => h) (by rfl) ?_ (by assumption) ?_
      rotate_left
      · intro w hSw; (try dsimp only at hSw); go_simp; (try with_reducible rfl)
      (try simp only [Act.put, mD24, List.setIfInBounds_toArray, List.set_cons_zero, List.set_cons_succ])
      cases ef with
      | false =>
        refine tkU 25 mD25 rfl (by kernel_rfl) (by kernel_rfl) (by kernel_rfl) (fun _ _ _ h => h) (by rfl) (by assumption) ?_
        (try simp only [Act.put, mD25, List.setIfInBounds_toArray, List.set_cons_zero, List.set_cons_succ])
        refine tkU 26 mD26 rfl (by kernel_rfl) (by kernel_rfl) (by kernel_rfl) (fun _ _ _ h => h) (by rfl) (by assumption) ?_
        (try simp only [Act.put, mD26, List.setIfInBounds_toArray, List.set_cons_zero, List.set_cons_succ])
        refine tkW (v := ?_) 27 mD27 rfl (by kernel_rfl) (by kernel_rfl) (by kernel_rfl) (fun _ _ _ h => h) (by rfl) ?_ (by assumption) ?_
        rotate_left
        · intro w hSw; (try dsimp only at hSw); go_simp; (try with_reducible rfl)
        (try simp only [Act.put, mD27, List.setIfInBounds_toArray, List.set_cons_zero, List.set_cons_succ])
        refine tkW (v := ?_) 28 mD28 rfl (by kernel_rfl) (by kernel_rfl) (by kernel_rfl) (fun _ _ _ h => h) (by rfl) ?_ (by assumption) ?_
        rotate_left
        · intro w hSw; (try dsimp only at hSw); go_simp; (try with_reducible rfl)
        (try simp only [Act.put, mD28, List.setIfInBounds_toArray, List.set_cons_zero, List.set_cons_succ])
        refine tkW (v := ?_) 29 mD29 rfl (by kernel_rfl) (by kernel_rfl) (by kernel_rfl) (fun _ _ _ h => h) (by rfl) ?_ (by assumption) ?_
        rotate_left
        · intro w hSw; (try dsimp only at hSw); go_simp; (try with_reducible rfl)
        (try simp only [Act.put, mD29, List.setIfInBounds_toArray, List.set_cons_zero, List.set_cons_succ])
        refine tkW (v := ?_) 30 mD30 rfl (by kernel_rfl) (by kernel_rfl) (by kernel_rfl) (fun _ _ _ h => h) (by rfl) ?_ (by assumption) ?_
        rotate_left
        · intro w hSw; (try dsimp only at hSw); go_simp; (try with_reducible rfl)
        (try simp only [Act.put, mD30, List.setIfInBounds_toArray, List.set_cons_zero, List.set_cons_succ])
        refine tkW (v := ?_) 31 mD31 rfl (by kernel_rfl) (by kernel_rfl) (by kernel_rfl) (fun _ _ _ h => h) (by rfl) ?_ (by assumption) ?_
        rotate_left
        · intro w hSw; (try dsimp only at hSw); go_simp; (try with_reducible rfl)
        (try simp only [Act.put, mD31, List.setIfInBounds_toArray, List.set_cons_zero, List.set_cons_succ])
        refine tkW (v := ?_) 32 mD32 rfl (by kernel_rfl) (by kernel_rfl) (by kernel_rfl) (fun _ _ _ h => h) (by rfl) ?_ (by assumption) ?_
        rotate_left
        · intro w hSw; (try dsimp only at hSw); go_simp; (try with_reducible rfl)
        (try simp only [Act.put, mD32, List.setIfInBounds_toArray, List.set_cons_zero, List.set_cons_succ])
        refine tkW (v := ?_) 33 mD33 rfl (by kernel_rfl) (by kernel_rfl) (by kernel_rfl) (fun _ _ _ h => h) (by rfl) ?_ (by assumption) ?_
        rotate_left
        · intro w hSw; (try dsimp only at hSw); go_simp; (try with_reducible rfl)
        (try simp only [Act.put, mD33, List.setIfInBounds_toArray, List.set_cons_zero, List.set_cons_succ])
        refine tkE 34 mD34 rfl (by kernel_rfl) (fun K hK => ?_)
        go_simp
        (refine (YC.out _ (KK.out.trans (KV2.out.trans (by first | assumption | exact Kp.drew _)))).mono ?_; rintro e w' ⟨rfl, k1⟩; have k2 := Kp.trans (show Kp V2 _ from (by first | assumption | exact Kp.drew _)) k1; clear k1)
        (try go_wp2_with fail)
        refine hK.out _ _ ?_ (fun hHeld7 => ?_)
        · (try dsimp only); exact KS.out _ (by first | assumption | exact Kp.drew _)
        clear hK K hHeld6
        (try simp only [Act.put, mD34, List.setIfInBounds_toArray, List.set_cons_zero, List.set_cons_succ])
        cases cf with
        | false =>
          refine tkW (v := ?_) 35 mD35 rfl (by kernel_rfl) (by kernel_rfl) (by kernel_rfl) (fun _ _ _ h => h) (by rfl) ?_ (by assumption) ?_
          rotate_left
          · intro w hSw; (try dsimp only at hSw); go_simp; (try with_reducible rfl)
          (try simp only [Act.put, mD35, List.setIfInBounds_toArray, List.set_cons_zero, List.set_cons_succ])
          refine tkW (v := ?_) 36 mD36 rfl (by kernel_rfl) (by kernel_rfl) (by kernel_rfl) (fun _ _ _ h => h) (by rfl) ?_ (by assumption) ?_
          rotate_left
          · intro w hSw; (try dsimp only at hSw); go_simp; (try with_reducible rfl)
          (try simp only [Act.put, mD36, List.setIfInBounds_toArray, List.set_cons_zero, List.set_cons_succ])
          refine tkU 37 mD37 rfl (by kernel_rfl) (by kernel_rfl) (by kernel_rfl) (fun _ _ _ h => h) (by rfl) (by assumption) ?_
          (try simp only [Act.put, mD37, List.setIfInBounds_toArray, List.set_cons_zero, List.set_cons_succ])
          refine tkU 38 mD38 rfl (by kernel_rfl) (by kernel_rfl) (by kernel_rfl) (fun _ _ _ h => h) (by rfl) (by assumption) ?_
          (try simp only [Act.put, mD38, List.setIfInBounds_toArray, List.set_cons_zero, List.set_cons_succ])
          refine tkU 39 mD39 rfl (by kernel_rfl) (by kernel_rfl) (by kernel_rfl) (fun _ _ _ h => h) (by rfl) (by assumption) ?_
          (try simp only [Act.put, mD39, List.setIfInBounds_toArray, List.set_cons_zero, List.set_cons_succ])
          refine tkU 40 mD40 rfl (by kernel_rfl) (by kernel_rfl) (by kernel_rfl) (fun _ _ _ h => h) (by rfl) (by assumption) ?_
          (try simp only [Act.put, mD40, List.setIfInBounds_toArray, List.set_cons_zero, List.set_cons_succ])
          refine tkW (v := ?_) 41 mD41 rfl (by kernel_rfl) (by kernel_rfl) (by kernel_rfl) (fun _ _ _ h => h) (by rfl) ?_ (by assumption) ?_
          rotate_left
          · intro w hSw; (try dsimp only at hSw); go_simp; (try with_reducible rfl)
          (try simp only [Act.put, mD41, List.setIfInBounds_toArray, List.set_cons_zero, List.set_cons_succ])
          refine tkW (v := ?_) 42 mD42 rfl (by kernel_rfl) (by kernel_rfl) (by kernel_rfl) (fun _ _ _ h => h) (by rfl) ?_ (by assumption) ?_
          rotate_left
          · intro w hSw; (try dsimp only at hSw); go_simp; (try with_reducible rfl)
          (try simp only [Act.put, mD42, List.setIfInBounds_toArray, List.set_cons_zero, List.set_cons_succ])
          refine tkW (v := ?_) 43 mD43 rfl (by kernel_rfl) (by kernel_rfl) (by kernel_rfl) (fun _ _ _ h => h) (by rfl) ?_ (by assumption) ?_
          rotate_left
          · intro w hSw; (try dsimp only at hSw); go_simp; (try with_reducible rfl)
          (try simp only [Act.put, mD43, List.setIfInBounds_toArray, List.set_cons_zero, List.set_cons_succ])
          refine wpAnyH_done (by kernel_rfl) ?_ _
          go_wp2
          go_ret
          exact ⟨by first | rfl | (have := MC.out (by first | rfl | trivial); simp [this]) | simp, K00.out.trans (by first | assumption | exact Kp.drew _)⟩
        | true =>
          refine tkW (v := ?_) 35 mD35 rfl (by kernel_rfl) (by kernel_rfl) (by kernel_rfl) (fun _ _ _ h => h) (by rfl) ?_ (by assumption) ?_
          rotate_left
          · intro w hSw; (try dsimp only at hSw); go_simp; (try with_reducible rfl)
          (try simp only [Act.put, mD35, List.setIfInBounds_toArray, List.set_cons_zero, List.set_cons_succ])
          refine tkW (v := ?_) 36 mD36 rfl (by kernel_rfl) (by kernel_rfl) (by kernel_rfl) (fun _ _ _ h => h) (by rfl) ?_ (by assumption) ?_
          rotate_left
          · intro w hSw; (try dsimp only at hSw); go_simp; (try with_reducible rfl)
          (try simp only [Act.put, mD36, List.setIfInBounds_toArray, List.set_cons_zero, List.set_cons_succ])
          refine tkW (v := ?_) 37 mD37 rfl (by kernel_rfl) (by kernel_rfl) (by kernel_rfl) (fun _ _ _ h => h) (by rfl) ?_ (by assumption) ?_
          rotate_left
          · intro w hSw; (try dsimp only at hSw); go_simp; (try with_reducible rfl)
          (try simp only [Act.put, mD37, List.setIfInBounds_toArray, List.set_cons_zero, List.set_cons_succ])
          refine tkW (v := ?_) 38 mD38 rfl (by kernel_rfl) (by kernel_rfl) (by kernel_rfl) (fun _ _ _ h => h) (by rfl) ?_ (by assumption) ?_
          rotate_left
          · intro w hSw; (try dsimp only at hSw); go_simp; (try with_reducible rfl)
          (try simp only [Act.put, mD38, List.setIfInBounds_toArray, List.set_cons_zero, List.set_cons_succ])
          refine tkW (v := ?_) 39 mD39 rfl (by kernel_rfl) (by kernel_rfl) (by kernel_rfl) (fun _ _ _ h => h) (by rfl) ?_ (by assumption) ?_
          rotate_left
          · intro w hSw; (try dsimp only at hSw); go_simp; (try with_reducible rfl)
          (try simp only [Act.put, mD39, List.setIfInBounds_toArray, List.set_cons_zero, List.set_cons_succ])
          refine tkE 40 mD40 rfl (by kernel_rfl) (fun K hK => ?_)
          go_simp
          (refine (XC.out _ (KK.out.trans (KV2.out.trans (by first | assumption | exact Kp.drew _)))).mono ?_; rintro e w' ⟨rfl, k1⟩; have k2 := Kp.trans (show Kp V2 _ from (by first | assumption | exact Kp.drew _)) k1; clear k1)
          (try go_wp2_with fail)
          refine hK.out _ _ ?_ (fun hHeld8 => ?_)
          · (try dsimp only); exact KS.out _ (by first | assumption | exact Kp.drew _)
          clear hK K hHeld7
          (try simp only [Act.put, mD40, List.setIfInBounds_toArray, List.set_cons_zero, List.set_cons_succ])
          refine tkW (v := ?_) 41 mD41 rfl (by kernel_rfl) (by kernel_rfl) (by kernel_rfl) (fun _ _ _ h => h) (by rfl) ?_ (by assumption) ?_
          rotate_left
          · intro w hSw; (try dsimp only at hSw); go_simp; (try with_reducible rfl)
          (try simp only [Act.put, mD41, List.setIfInBounds_toArray, List.set_cons_zero, List.set_cons_succ])
          refine tkW (v := ?_) 42 mD42 rfl (by kernel_rfl) (by kernel_rfl) (by kernel_rfl) (fun _ _ _ h => h) (by rfl) ?_ (by assumption) ?_
          rotate_left
          · intro w hSw; (try dsimp only at hSw); go_simp; (try with_reducible rfl)
          (try simp only [Act.put, mD42, List.setIfInBounds_toArray, List.set_cons_zero, List.set_cons_succ])
          refine tkW (v := ?_) 43 mD43 rfl (by kernel_rfl) (by kernel_rfl) (by kernel_rfl) (fun _ _ _ h => h) (by rfl) ?_ (by assumption) ?_
          rotate_left
          · intro w hSw; (try dsimp only at hSw); go_simp; (try with_reducible rfl)
          (try simp only [Act.put, mD43, List.setIfInBounds_toArray, List.set_cons_zero, List.set_cons_succ])
          refine wpAnyH_done (by kernel_rfl) ?_ _
          go_wp2
          go_ret
          exact ⟨by first | rfl | (have := MC.out (by first | rfl | trivial); simp [this]) | simp, K00.out.trans (by first | assumption | exact Kp.drew _)⟩
      | true =>
        refine tkW (v := ?_) 25 mD25 rfl (by kernel_rfl) (by kernel_rfl) (by kernel_rfl) (fun _ _ _ h => h) (by rfl) ?_ (by assumption) ?_
        rotate_left
        · intro w hSw; (try dsimp only at hSw); go_simp; (try with_reducible rfl)
        (try simp only [Act.put, mD25, List.setIfInBounds_toArray, List.set_cons_zero, List.set_cons_succ])
        refine tkE 26 mD26 rfl (by kernel_rfl) (fun K hK => ?_)
        go_simp
        (refine (ZE.out _ (KK.out.trans (KV2.out.trans (by first | assumption | exact Kp.drew _)))).mono ?_; rintro e w' ⟨rfl, k1⟩; have k2 := Kp.trans (show Kp V2 _ from (by first | assumption | exact Kp.drew _)) k1; clear k1)
        (try go_wp2_with fail)
        refine hK.out _ _ ?_ (fun hHeld7 => ?_)
        · (try dsimp only); exact KS.out _ (by first | assumption | exact Kp.drew _)
        clear hK K hHeld6
        (try simp only [Act.put, mD26, List.setIfInBounds_toArray, List.set_cons_zero, List.set_cons_succ])
        refine tkW (v := ?_) 27 mD27 rfl (by kernel_rfl) (by kernel_rfl) (by kernel_rfl) (fun _ _ _ h => h) (by rfl) ?_ (by assumption) ?_
        rotate_left
        · intro w hSw; (try dsimp only at hSw); go_simp; (try with_reducible rfl)
        (try simp only [Act.put, mD27, List.setIfInBounds_toArray, List.set_cons_zero, List.set_cons_succ])
        refine tkW (v := ?_) 28 mD28 rfl (by kernel_rfl) (by kernel_rfl) (by kernel_rfl) (fun _ _ _ h => h) (by rfl) ?_ (by assumption) ?_
        rotate_left
        · intro w hSw; (try dsimp only at hSw); go_simp; (try with_reducible rfl)
        (try simp only [Act.put, mD28, List.setIfInBounds_toArray, List.set_cons_zero, List.set_cons_succ])
        refine tkW (v := ?_) 29 mD29 rfl (by kernel_rfl) (by kernel_rfl) (by kernel_rfl) (fun _ _ _ h => h) (by rfl) ?_ (by assumption) ?_
        rotate_left
        · intro w hSw; (try dsimp only at hSw); go_simp; (try with_reducible rfl)
        (try simp only [Act.put, mD29, List.setIfInBounds_toArray, List.set_cons_zero, List.set_cons_succ])
        refine tkW (v := ?_) 30 mD30 rfl (by kernel_rfl) (by kernel_rfl) (by kernel_rfl) (fun _ _ _ h => h) (by rfl) ?_ (by assumption) ?_
        rotate_left
        · intro w hSw; (try dsimp only at hSw); go_simp; (try with_reducible rfl)
        (try simp only [Act.put, mD30, List.setIfInBounds_toArray, List.set_cons_zero, List.set_cons_succ])
        refine tkW (v := ?_) 31 mD31 rfl (by kernel_rfl) (by kernel_rfl) (by kernel_rfl) (fun _ _ _ h => h) (by rfl) ?_ (by assumption) ?_
        rotate_left
        · intro w hSw; (try dsimp only at hSw); go_simp; (try with_reducible rfl)
        (try simp only [Act.put, mD31, List.setIfInBounds_toArray, List.set_cons_zero, List.set_cons_succ])
        refine tkW (v := ?_) 32 mD32 rfl (by kernel_rfl) (by kernel_rfl) (by kernel_rfl) (fun _ _ _ h => h) (by rfl) ?_ (by assumption) ?_
        rotate_left
        · intro w hSw; (try dsimp only at hSw); go_simp; (try with_reducible rfl)
        (try simp only [Act.put, mD32, List.setIfInBounds_toArray, List.set_cons_zero, List.set_cons_succ])
        refine tkW (v := ?_) 33 mD33 rfl (by kernel_rfl) (by kernel_rfl) (by kernel_rfl) (fun _ _ _ h => h) (by rfl) ?_ (by assumption) ?_
        rotate_left
        · intro w hSw; (try dsimp only at hSw); go_simp; (try with_reducible rfl)
        (try simp only [Act.put, mD33, List.setIfInBounds_toArray, List.set_cons_zero, List.set_cons_succ])
        refine tkE 34 mD34 rfl (by kernel_rfl) (fun K hK => ?_)
        go_simp
        (refine (YC.out _ (KK.out.trans (KV2.out.trans (by first | assumption | exact Kp.drew _)))).mono ?_; rintro e w' ⟨rfl, k1⟩; have k2 := Kp.trans (show Kp V2 _ from (by first | assumption | exact Kp.drew _)) k1; clear k1)
        (try go_wp2_with fail)
        refine hK.out _ _ ?_ (fun hHeld8 => ?_)
        · (try dsimp only); exact KS.out _ (by first | assumption | exact Kp.drew _)
        clear hK K hHeld7
        (try simp only [Act.put, mD34, List.setIfInBounds_toArray, List.set_cons_zero, List.set_cons_succ])
        cases cf with
        | false =>
          refine tkW (v := ?_) 35 mD35 rfl (by kernel_rfl) (by kernel_rfl) (by kernel_rfl) (fun _ _ _ h => h) (by rfl) ?_ (by assumption) ?_
          rotate_left
          · intro w hSw; (try dsimp only at hSw); go_simp; (try with_reducible rfl)
          (try simp only [Act.put, mD35, List.setIfInBounds_toArray, List.set_cons_zero, List.set_cons_succ])
          refine tkW (v := ?_) 36 mD36 rfl (by kernel_rfl) (by kernel_rfl) (by kernel_rfl) (fun _ _ _ h => h) (by rfl) ?_ (by assumption) ?_
          rotate_left
          · intro w hSw; (try dsimp only at hSw); go_simp; (try with_reducible rfl)
          (try simp only [Act.put, mD36, List.setIfInBounds_toArray, List.set_cons_zero, List.set_cons_succ])
          refine tkU 37 mD37 rfl (by kernel_rfl) (by kernel_rfl) (by kernel_rfl) (fun _ _ _ h => h) (by rfl) (by assumption) ?_
          (try simp only [Act.put, mD37, List.setIfInBounds_toArray, List.set_cons_zero, List.set_cons_succ])
          refine tkU 38 mD38 rfl (by kernel_rfl) (by kernel_rfl) (by kernel_rfl) (fun _ _ _ h => h) (by rfl) (by assumption) ?_
          (try simp only [Act.put, mD38, List.setIfInBounds_toArray, List.set_cons_zero, List.set_cons_succ])
          refine tkU 39 mD39 rfl (by kernel_rfl) (by kernel_rfl) (by kernel_rfl) (fun _ _ _ h => h) (by rfl) (by assumption) ?_
          (try simp only [Act.put, mD39, List.setIfInBounds_toArray, List.set_cons_zero, List.set_cons_succ])
          refine tkU 40 mD40 rfl (by kernel_rfl) (by kernel_rfl) (by kernel_rfl) (fun _ _ _ h => h) (by rfl) (by assumption) ?_
          (try simp only [Act.put, mD40, List.setIfInBounds_toArray, List.set_cons_zero, List.set_cons_succ])
          refine tkW (v := ?_) 41 mD41 rfl (by kernel_rfl) (by kernel_rfl) (by kernel_rfl) (fun _ _ _ h => h) (by rfl) ?_ (by assumption) ?_
          rotate_left
          · intro w hSw; (try dsimp only at hSw); go_simp; (try with_reducible rfl)
          (try simp only [Act.put, mD41, List.setIfInBounds_toArray, List.set_cons_zero, List.set_cons_succ])
          refine tkW (v := ?_) 42 mD42 rfl (by kernel_rfl) (by kernel_rfl) (by kernel_rfl) (fun _ _ _ h => h) (by rfl) ?_ (by assumption) ?_
          rotate_left
          · intro w hSw; (try dsimp only at hSw); go_simp; (try with_reducible rfl)
          (try simp only [Act.put, mD42, List.setIfInBounds_toArray, List.set_cons_zero, List.set_cons_succ])
          refine tkW (v := ?_) 43 mD43 rfl (by kernel_rfl) (by kernel_rfl) (by kernel_rfl) (fun _ _ _ h => h) (by rfl) ?_ (by assumption) ?_
          rotate_left
          · intro w hSw; (try dsimp only at hSw); go_simp; (try with_reducible rfl)
          (try simp only [Act.put, mD43, List.setIfInBounds_toArray, List.set_cons_zero, List.set_cons_succ])
          refine wpAnyH_done (by kernel_rfl) ?_ _
          go_wp2
          go_ret
          exact ⟨by first | rfl | (have := MC.out (by first | rfl | trivial); simp [this]) | simp, K00.out.trans (by first | assumption | exact Kp.drew _)⟩
        | true =>
          refine tkW (v := ?_) 35 mD35 rfl (by kernel_rfl) (by kernel_rfl) (by kernel_rfl) (fun _ _ _ h => h) (by rfl) ?_ (by assumption) ?_
          rotate_left
          · intro w hSw; (try dsimp only at hSw); go_simp; (try with_reducible rfl)
          (try simp only [Act.put, mD35, List.setIfInBounds_toArray, List.set_cons_zero, List.set_cons_succ])
          refine tkW (v := ?_) 36 mD36 rfl (by kernel_rfl) (by kernel_rfl) (by kernel_rfl) (fun _ _ _ h => h) (by rfl) ?_ (by assumption) ?_
          rotate_left
          · intro w hSw; (try dsimp only at hSw); go_simp; (try with_reducible rfl)
          (try simp only [Act.put, mD36, List.setIfInBounds_toArray, List.set_cons_zero, List.set_cons_succ])
          refine tkW (v := ?_) 37 mD37 rfl (by kernel_rfl) (by kernel_rfl) (by kernel_rfl) (fun _ _ _ h => h) (by rfl) ?_ (by assumption) ?_
          rotate_left
          · intro w hSw; (try dsimp only at hSw); go_simp; (try with_reducible rfl)
          (try simp only [Act.put, mD37, List.setIfInBounds_toArray, List.set_cons_zero, List.set_cons_succ])
          refine tkW (v := ?_) 38 mD38 rfl (by kernel_rfl) (by kernel_rfl) (by kernel_rfl) (fun _ _ _ h => h) (by rfl) ?_ (by assumption) ?_
          rotate_left
          · intro w hSw; (try dsimp only at hSw); go_simp; (try with_reducible rfl)
          (try simp only [Act.put, mD38, List.setIfInBounds_toArray, List.set_cons_zero, List.set_cons_succ])
          refine tkW (v := ?_) 39 mD39 rfl (by kernel_rfl) (by kernel_rfl) (by kernel_rfl) (fun _ _ _ h => h) (by rfl) ?_ (by assumption) ?_
          rotate_left
          · intro w hSw; (try dsimp only at hSw); go_simp; (try with_reducible rfl)
          (try simp only [Act.put, mD39, List.setIfInBounds_toArray, List.set_cons_zero, List.set_cons_succ])
          refine tkE 40 mD40 rfl (by kernel_rfl) (fun K hK => ?_)
          go_simp
          (refine (XC.out _ (KK.out.trans (KV2.out.trans (by first | assumption | exact Kp.drew _)))).mono ?_; rintro e w' ⟨rfl, k1⟩; have k2 := Kp.trans (show Kp V2 _ from (by first | assumption | exact Kp.drew _)) k1; clear k1)
          (try go_wp2_with fail)
          refine hK.out _ _ ?_ (fun hHeld9 => ?_)
          · (try dsimp only); exact KS.out _ (by first | assumption | exact Kp.drew _)
          clear hK K hHeld8
          (try simp only [Act.put, mD40, List.setIfInBounds_toArray, List.set_cons_zero, List.set_cons_succ])
          refine tkW (v := ?_) 41 mD41 rfl (by kernel_rfl) (by kernel_rfl) (by kernel_rfl) (fun _ _ _ h => h) (by rfl) ?_ (by assumption) ?_
          rotate_left
          · intro w hSw; (try dsimp only at hSw); go_simp; (try with_reducible rfl)
          (try simp only [Act.put, mD41, List.setIfInBounds_toArray, List.set_cons_zero, List.set_cons_succ])
          refine tkW (v := ?_) 42 mD42 rfl (by kernel_rfl) (by kernel_rfl) (by kernel_rfl) (fun _ _ _ h => h) (by rfl) ?_ (by assumption) ?_
          rotate_left
          · intro w hSw; (try dsimp only at hSw); go_simp; (try with_reducible rfl)
          (try simp only [Act.put, mD42, List.setIfInBounds_toArray, List.set_cons_zero, List.set_cons_succ])
          refine tkW (v := ?_) 43 mD43 rfl (by kernel_rfl) (by kernel_rfl) (by kernel_rfl) (fun _ _ _ h => h) (by rfl) ?_ (by assumption) ?_
          rotate_left
          · intro w hSw; (try dsimp only at hSw); go_simp; (try with_reducible rfl)
          (try simp only [Act.put, mD43, List.setIfInBounds_toArray, List.set_cons_zero, List.set_cons_succ])
          refine wpAnyH_done (by kernel_rfl) ?_ _
          go_wp2
          go_ret
          exact ⟨by first | rfl | (have := MC.out (by first | rfl | trivial); simp [this]) | simp, K00.out.trans (by first | assumption | exact Kp.drew _)⟩
    | true =>
      refine tkU 13 mD13 rfl (by kernel_rfl) (by kernel_rfl) (by kernel_rfl) (fun _ _ _ h => h) (by rfl) (by assumption) ?_
      (try simp only [Act.put, mD13, List.setIfInBounds_toArray, List.set_cons_zero, List.set_cons_succ])
      refine tkU 14 mD14 rfl (by kernel_rfl) (by kernel_rfl) (by kernel_rfl) (fun _ _ _ h => h) (by rfl) (by assumption) ?_
      (try simp only [Act.put, mD14, List.setIfInBounds_toArray, List.set_cons_zero, List.set_cons_succ])
      refine tkU 15 mD15 rfl (by kernel_rfl) (by kernel_rfl) (by kernel_rfl) (fun _ _ _ h => h) (by rfl) (by assumption) ?_
      (try simp only [Act.put, mD15, List.setIfInBounds_toArray, List.set_cons_zero, List.set_cons_succ])
      refine tkW (v := ?_) 16 mD16 rfl (by kernel_rfl) (by kernel_rfl) (by kernel_rfl) (fun _ _ _ h => h) (by rfl) ?_ (by assumption) ?_
      rotate_left
      · intro w hSw; (try dsimp only at hSw); go_simp; (try with_reducible rfl)
      (try simp only [Act.put, mD16, List.setIfInBounds_toArray, List.set_cons_zero, List.set_cons_succ])
      refine tkW (v := ?_) 17 mD17 rfl (by kernel_rfl) (by kernel_rfl) (by kernel_rfl) (fun _ _ _ h => h) (by rfl) ?_ (by assumption) ?_
      rotate_left
      · intro w hSw; (try dsimp only at hSw); go_simp; (try with_reducible rfl)
      (try simp only [Act.put, mD17, List.setIfInBounds_toArray, List.set_cons_zero, List.set_cons_succ])
      refine tkW (v := ?_) 18 mD18 rfl (by kernel_rfl) (by kernel_rfl) (by kernel_rfl) (fun _ _ _ h => h) (by rfl) ?_ (by assumption) ?_
      rotate_left
      · intro w hSw; (try dsimp only at hSw); go_simp; (try with_reducible rfl)
      (try simp only [Act.put, mD18, List.setIfInBounds_toArray, List.set_cons_zero, List.set_cons_succ])
      refine tkW (v := ?_) 19 mD19 rfl (by kernel_rfl) (by kernel_rfl) (by kernel_rfl) (fun _ _ _ h => h) (by rfl) ?_ (by assumption) ?_
      rotate_left
      · intro w hSw; (try dsimp only at hSw); go_simp; (try with_reducible rfl)
      (try simp only [Act.put, mD19, List.setIfInBounds_toArray, List.set_cons_zero, List.set_cons_succ])
      refine tkW (v := ?_) 20 mD20 rfl (by kernel_rfl) (by kernel_rfl) (by kernel_rfl) (fun _ _ _ h => h) (by rfl) ?_ (by assumption) ?_
      rotate_left
      · intro w hSw; (try dsimp only at hSw); go_simp; (try with_reducible rfl)
      (try simp only [Act.put, mD20, List.setIfInBounds_toArray, List.set_cons_zero, List.set_cons_succ])
      refine tkW (v := ?_) 22 mD22 rfl (by kernel_rfl) (by kernel_rfl) (by kernel_rfl) (fun _ _ _ h => h) (by rfl) ?_ (by assumption) ?_
      rotate_left
      · intro w hSw; (try dsimp only at hSw); go_simp; (try with_reducible rfl)
      (try simp only [Act.put, mD22, List.setIfInBounds_toArray, List.set_cons_zero, List.set_cons_succ])
      refine tkE 21 mD21 rfl (by kernel_rfl) (fun K hK => ?_)
      go_simp
      (refine (XE.out _ (KK.out.trans (KV2.out.trans (by first | assumption | exact Kp.drew _)))).mono ?_; rintro e w' ⟨rfl, k1⟩; have k2 := Kp.trans (show Kp V2 _ from (by first | assumption | exact Kp.drew _)) k1; clear k1)
      (try go_wp2_with fail)
      refine hK.out _ _ ?_ (fun hHeld4 => ?_)
      · (try dsimp only); exact KS.out _ (by first | assumption | exact Kp.drew _)
      clear hK K hHeld3
      (try simp only [Act.put, mD21, List.setIfInBounds_toArray, List.set_cons_zero, List.set_cons_succ])
      refine tkE 23 mD23 rfl (by kernel_rfl) (fun K hK => ?_)
      go_simp
      (refine (YE.out _ (KK.out.trans (KV2.out.trans (by first | assumption | exact Kp.drew _)))).mono ?_; rintro e w' ⟨rfl, k1⟩; have k2 := Kp.trans (show Kp V2 _ from (by first | assumption | exact Kp.drew _)) k1; clear k1)
      (try go_wp2_with fail)
      refine hK.out _ _ ?_ (fun hHeld5 => ?_)
      · (try dsimp only); exact KS.out _ (by first | assumption | exact Kp.drew _)
      clear hK K hHeld4
      (try simp only [Act.put, mD23, List.setIfInBounds_toArray, List.set_cons_zero, List.set_cons_succ])
      refine tkW (v := ?_) 24 mD24 rfl (by kernel_rfl) (by kernel_rfl) (by kernel_rfl) (fun _ _ _ h => h) (by rfl) ?_ (by assumption) ?_
      rotate_left
      · intro w hSw; (try dsimp only at hSw); go_simp; (try with_reducible rfl)
      (try simp only [Act.put, mD24, List.setIfInBounds_toArray, List.set_cons_zero, List.set_cons_succ])
      cases ef with
      | false =>
        refine tkU 25 mD25 rfl (by kernel_rfl) (by kernel_rfl) (by kernel_rfl) (fun _ _ _ h => h) (by rfl) (by assumption) ?_
        (try simp only [Act.put, mD25, List.setIfInBounds_toArray, List.set_cons_zero, List.set_cons_succ])
        refine tkU 26 mD26 rfl (by kernel_rfl) (by kernel_rfl) (by kernel_rfl) (fun _ _ _ h => h) (by rfl) (by assumption) ?_
        (try simp only [Act.put, mD26, List.setIfInBounds_toArray, List.set_cons_zero, List.set_cons_succ])
        refine tkW (v := ?_) 27 mD27 rfl (by kernel_rfl) (by kernel_rfl) (by kernel_rfl) (fun _ _ _ h => h) (by rfl) ?_ (by assumption) ?_
        rotate_left
        · intro w hSw; (try dsimp only at hSw); go_simp; (try with_reducible rfl)
        (try simp only [Act.put, mD27, List.setIfInBounds_toArray, List.set_cons_zero, List.set_cons_succ])
        refine tkW (v := ?_) 28 mD28 rfl (by kernel_rfl) (by kernel_rfl) (by kernel_rfl) (fun _ _ _ h => h) (by rfl) ?_ (by assumption) ?_
        rotate_left
        · intro w hSw; (try dsimp only at hSw); go_simp; (try with_reducible rfl)
        (try simp only [Act.put, mD28, List.setIfInBounds_toArray, List.set_cons_zero, List.set_cons_succ])
        refine tkW (v := ?_) 29 mD29 rfl (by kernel_rfl) (by kernel_rfl) (by kernel_rfl) (fun _ _ _ h => h) (by rfl) ?_ (by assumption) ?_
        rotate_left
        · intro w hSw; (try dsimp only at hSw); go_simp; (try with_reducible rfl)
        (try simp only [Act.put, mD29, List.setIfInBounds_toArray, List.set_cons_zero, List.set_cons_succ])
        refine tkW (v := ?_) 30 mD30 rfl (by kernel_rfl) (by kernel_rfl) (by kernel_rfl) (fun _ _ _ h => h) (by rfl) ?_ (by assumption) ?_
        rotate_left
        · intro w hSw; (try dsimp only at hSw); go_simp; (try with_reducible rfl)
        (try simp only [Act.put, mD30, List.setIfInBounds_toArray, List.set_cons_zero, List.set_cons_succ])
        refine tkW (v := ?_) 31 mD31 rfl (by kernel_rfl) (by kernel_rfl) (by kernel_rfl) (fun _ _ _ h => h) (by rfl) ?_ (by assumption) ?_
        rotate_left
        · intro w hSw; (try dsimp only at hSw); go_simp; (try with_reducible rfl)
        (try simp only [Act.put, mD31, List.setIfInBounds_toArray, List.set_cons_zero, List.set_cons_succ])
        refine tkW (v := ?_) 32 mD32 rfl (by kernel_rfl) (by kernel_rfl) (by kernel_rfl) (fun _ _ _ h => h) (by rfl) ?_ (by assumption) ?_
        rotate_left
        · intro w hSw; (try dsimp only at hSw); go_simp; (try with_reducible rfl)
        (try simp only [Act.put, mD32, List.setIfInBounds_toArray, List.set_cons_zero, List.set_cons_succ])
        refine tkW (v := ?_) 33 mD33 rfl (by kernel_rfl) (by kernel_rfl) (by kernel_rfl) (fun _ _ _ h => h) (by rfl) ?_ (by assumption) ?_
        rotate_left
        · intro w hSw; (try dsimp only at hSw); go_simp; (try with_reducible rfl)
        (try simp only [Act.put, mD33, List.setIfInBounds_toArray, List.set_cons_zero, List.set_cons_succ])
        refine tkE 34 mD34 rfl (by kernel_rfl) (fun K hK => ?_)
        go_simp
        (refine (YC.out _ (KK.out.trans (KV2.out.trans (by first | assumption | exact Kp.drew _)))).mono ?_; rintro e w' ⟨rfl, k1⟩; have k2 := Kp.trans (show Kp V2 _ from (by first | assumption | exact Kp.drew _)) k1; clear k1)
        (try go_wp2_with fail)
        refine hK.out _ _ ?_ (fun hHeld6 => ?_)
        · (try dsimp only); exact KS.out _ (by first | assumption | exact Kp.drew _)
        clear hK K hHeld5
        (try simp only [Act.put, mD34, List.setIfInBounds_toArray, List.set_cons_zero, List.set_cons_succ])
        cases cf with
        | false =>
          refine tkW (v := ?_) 35 mD35 rfl (by kernel_rfl) (by kernel_rfl) (by kernel_rfl) (fun _ _ _ h => h) (by rfl) ?_ (by assumption) ?_
          rotate_left
          · intro w hSw; (try dsimp only at hSw); go_simp; (try with_reducible rfl)
          (try simp only [Act.put, mD35, List.setIfInBounds_toArray, List.set_cons_zero, List.set_cons_succ])
          refine tkW (v := ?_) 36 mD36 rfl (by kernel_rfl) (by kernel_rfl) (by kernel_rfl) (fun _ _ _ h => h) (by rfl) ?_ (by assumption) ?_
          rotate_left
          · intro w hSw; (try dsimp only at hSw); go_simp; (try with_reducible rfl)
          (try simp only [Act.put, mD36, List.setIfInBounds_toArray, List.set_cons_zero, List.set_cons_succ])
          refine tkU 37 mD37 rfl (by kernel_rfl) (by kernel_rfl) (by kernel_rfl) (fun _ _ _ h => h) (by rfl) (by assumption) ?_
          (try simp only [Act.put, mD37, List.setIfInBounds_toArray, List.set_cons_zero, List.set_cons_succ])
          refine tkU 38 mD38 rfl (by kernel_rfl) (by kernel_rfl) (by kernel_rfl) (fun _ _ _ h => h) (by rfl) (by assumption) ?_
          (try simp only [Act.put, mD38, List.setIfInBounds_toArray, List.set_cons_zero, List.set_cons_succ])
          refine tkU 39 mD39 rfl (by kernel_rfl) (by kernel_rfl) (by kernel_rfl) (fun _ _ _ h => h) (by rfl) (by assumption) ?_
          (try simp only [Act.put, mD39, List.setIfInBounds_toArray, List.set_cons_zero, List.set_cons_succ])
          refine tkU 40 mD40 rfl (by kernel_rfl) (by kernel_rfl) (by kernel_rfl) (fun _ _ _ h => h) (by rfl) (by assumption) ?_
          (try simp only [Act.put, mD40, List.setIfInBounds_toArray, List.set_cons_zero, List.set_cons_succ])
          refine tkW (v := ?_) 41 mD41 rfl (by kernel_rfl) (by kernel_rfl) (by kernel_rfl) (fun _ _ _ h => h) (by rfl) ?_ (by assumption) ?_
          rotate_left
          · intro w hSw; (try dsimp only at hSw); go_simp; (try with_reducible rfl)
          (try simp only [Act.put, mD41, List.setIfInBounds_toArray, List.set_cons_zero, List.set_cons_succ])
          refine tkW (v := ?_) 42 mD42 rfl (by kernel_rfl) (by kernel_rfl) (by kernel_rfl) (fun _ _ _ h => h) (by rfl) ?_ (by assumption) ?_
          rotate_left
          · intro w hSw; (try dsimp only at hSw); go_simp; (try with_reducible rfl)
          (try simp only [Act.put, mD42, List.setIfInBounds_toArray, List.set_cons_zero, List.set_cons_succ])
          refine tkW (v := ?_) 43 mD43 rfl (by kernel_rfl) (by kernel_rfl) (by kernel_rfl) (fun _ _ _ h => h) (by rfl) ?_ (by assumption) ?_
          rotate_left
          · intro w hSw; (try dsimp only at hSw); go_simp; (try with_reducible rfl)
          (try simp only [Act.put, mD43, List.setIfInBounds_toArray, List.set_cons_zero, List.set_cons_succ])
          refine wpAnyH_done (by kernel_rfl) ?_ _
          go_wp2
          go_ret
          exact ⟨by first | rfl | (have := MC.out (by first | rfl | trivial); simp [this]) | simp, K00.out.trans (by first | assumption | exact Kp.drew _)⟩
        | true =>
          refine tkW (v := ?_) 35 mD35 rfl (by kernel_rfl) (by kernel_rfl) (by kernel_rfl) (fun _ _ _ h => h) (by rfl) ?_ (by assumption) ?_
          rotate_left
          · intro w hSw; (try dsimp only at hSw); go_simp; (try with_reducible rfl)
          (try simp only [Act.put, mD35, List.setIfInBounds_toArray, List.set_cons_zero, List.set_cons_succ])
          refine tkW (v := ?_) 36 mD36 rfl (by kernel_rfl) (by kernel_rfl) (by kernel_rfl) (fun _ _ _ h => h) (by rfl) ?_ (by assumption) ?_
          rotate_left
          · intro w hSw; (try dsimp only at hSw); go_simp; (try with_reducible rfl)
          (try simp only [Act.put, mD36, List.setIfInBounds_toArray, List.set_cons_zero, List.set_cons_succ])
          refine tkW (v := ?_) 37 mD37 rfl (by kernel_rfl) (by kernel_rfl) (by kernel_rfl) (fun _ _ _ h => h) (by rfl) ?_ (by assumption) ?_
          rotate_left
          · intro w hSw; (try dsimp only at hSw); go_simp; (try with_reducible rfl)
          (try simp only [Act.put, mD37, List.setIfInBounds_toArray, List.set_cons_zero, List.set_cons_succ])
          refine tkW (v := ?_) 38 mD38 rfl (by kernel_rfl) (by kernel_rfl) (by kernel_rfl) (fun _ _ _ h => h) (by rfl) ?_ (by assumption) ?_
          rotate_left
          · intro w hSw; (try dsimp only at hSw); go_simp; (try with_reducible rfl)
          (try simp only [Act.put, mD38, List.setIfInBounds_toArray, List.set_cons_zero, List.set_cons_succ])
          refine tkW (v := ?_) 39 mD39 rfl (by kernel_rfl) (by kernel_rfl) (by kernel_rfl) (fun _ _ _ h => h) (by rfl) ?_ (by assumption) ?_
          rotate_left
          · intro w hSw; (try dsimp only at hSw); go_simp; (try with_reducible rfl)
          (try simp only [Act.put, mD39, List.setIfInBounds_toArray, List.set_cons_zero, List.set_cons_succ])
          refine tkE 40 mD40 rfl (by kernel_rfl) (fun K hK => ?_)
          go_simp
          (refine (XC.out _ (KK.out.trans (KV2.out.trans (by first | assumption | exact Kp.drew _)))).mono ?_; rintro e w' ⟨rfl, k1⟩; have k2 := Kp.trans (show Kp V2 _ from (by first | assumption | exact Kp.drew _)) k1; clear k1)
          (try go_wp2_with fail)
          refine hK.out _ _ ?_ (fun hHeld7 => ?_)
          · (try dsimp only); exact KS.out _ (by first | assumption | exact Kp.drew _)
          clear hK K hHeld6
          (try simp only [Act.put, mD40, List.setIfInBounds_toArray, List.set_cons_zero, List.set_cons_succ])
          refine tkW (v := ?_) 41 mD41 rfl (by kernel_rfl) (by kernel_rfl) (by kernel_rfl) (fun _ _ _ h => h) (by rfl) ?_ (by assumption) ?_
          rotate_left
          · intro w hSw; (try dsimp only at hSw); go_simp; (try with_reducible rfl)
          (try simp only [Act.put, mD41, List.setIfInBounds_toArray, List.set_cons_zero, List.set_cons_succ])
          refine tkW (v := ?_) 42 mD42 rfl (by kernel_rfl) (by kernel_rfl) (by kernel_rfl) (fun _ _ _ h => h) (by rfl) ?_ (by assumption) ?_
          rotate_left
          · intro w hSw; (try dsimp only at hSw); go_simp; (try with_reducible rfl)
          (try simp only [Act.put, mD42, List.setIfInBounds_toArray, List.set_cons_zero, List.set_cons_succ])
          refine tkW (v := ?_) 43 mD43 rfl (by kernel_rfl) (by kernel_rfl) (by kernel_rfl) (fun _ _ _ h => h) (by rfl) ?_ (by assumption) ?_
          rotate_left
          · intro w hSw; (try dsimp only at hSw); go_simp; (try with_reducible rfl)
          (try simp only [Act.put, mD43, List.setIfInBounds_toArray, List.set_cons_zero, List.set_cons_succ])
          refine wpAnyH_done (by kernel_rfl) ?_ _
          go_wp2
          go_ret
          exact ⟨by first | rfl | (have := MC.out (by first | rfl | trivial); simp [this]) | simp, K00.out.trans (by first | assumption | exact Kp.drew _)⟩
      | true =>
        refine tkW (v := ?_) 25 mD25 rfl (by kernel_rfl) (by kernel_rfl) (by kernel_rfl) (fun _ _ _ h => h) (by rfl) ?_ (by assumption) ?_
        rotate_left
        · intro w hSw; (try dsimp only at hSw); go_simp; (try with_reducible rfl)
        (try simp only [Act.put, mD25, List.setIfInBounds_toArray, List.set_cons_zero, List.set_cons_succ])
        refine tkE 26 mD26 rfl (by kernel_rfl) (fun K hK => ?_)
        go_simp
        (refine (ZE.out _ (KK.out.trans (KV2.out.trans (by first | assumption | exact Kp.drew _)))).mono ?_; rintro e w' ⟨rfl, k1⟩; have k2 := Kp.trans (show Kp V2 _ from (by first | assumption | exact Kp.drew _)) k1; clear k1)
        (try go_wp2_with fail)
        refine hK.out _ _ ?_ (fun hHeld6 => ?_)
        · (try dsimp only); exact KS.out _ (by first | assumption | exact Kp.drew _)
        clear hK K hHeld5
        (try simp only [Act.put, mD26, List.setIfInBounds_toArray, List.set_cons_zero, List.set_cons_succ])
        refine tkW (v := ?_) 27 mD27 rfl (by kernel_rfl) (by kernel_rfl) (by kernel_rfl) (fun _ _ _ h => h) (by rfl) ?_ (by assumption) ?_
        rotate_left
        · intro w hSw; (try dsimp only at hSw); go_simp; (try with_reducible rfl)
        (try simp only [Act.put, mD27, List.setIfInBounds_toArray, List.set_cons_zero, List.set_cons_succ])
        refine tkW (v := ?_) 28 mD28 rfl (by kernel_rfl) (by kernel_rfl) (by kernel_rfl) (fun _ _ _ h => h) (by rfl) ?_ (by assumption) ?_
        rotate_left
        · intro w hSw; (try dsimp only at hSw); go_simp; (try with_reducible rfl)
        (try simp only [Act.put, mD28, List.setIfInBounds_toArray, List.set_cons_zero, List.set_cons_succ])
        refine tkW (v := ?_) 29 mD29 rfl (by kernel_rfl) (by kernel_rfl) (by kernel_rfl) (fun _ _ _ h => h) (by rfl) ?_ (by assumption) ?_
        rotate_left
        · intro w hSw; (try dsimp only at hSw); go_simp; (try with_reducible rfl)
        (try simp only [Act.put, mD29, List.setIfInBounds_toArray, List.set_cons_zero, List.set_cons_succ])
        refine tkW (v := ?_) 30 mD30 rfl (by kernel_rfl) (by kernel_rfl) (by kernel_rfl) (fun _ _ _ h => h) (by rfl) ?_ (by assumption) ?_
        rotate_left
        · intro w hSw; (try dsimp only at hSw); go_simp; (try with_reducible rfl)
        (try simp only [Act.put, mD30, List.setIfInBounds_toArray, List.set_cons_zero, List.set_cons_succ])
        refine tkW (v := ?_) 31 mD31 rfl (by kernel_rfl) (by kernel_rfl) (by kernel_rfl) (fun _ _ _ h => h) (by rfl) ?_ (by assumption) ?_
        rotate_left
        · intro w hSw; (try dsimp only at hSw); go_simp; (try with_reducible rfl)
        (try simp only [Act.put, mD31, List.setIfInBounds_toArray, List.set_cons_zero, List.set_cons_succ])
        refine tkW (v := ?_) 32 mD32 rfl (by kernel_rfl) (by kernel_rfl) (by kernel_rfl) (fun _ _ _ h => h) (by rfl) ?_ (by assumption) ?_
        rotate_left
        · intro w hSw; (try dsimp only at hSw); go_simp; (try with_reducible rfl)
        (try simp only [Act.put, mD32, List.setIfInBounds_toArray, List.set_cons_zero, List.set_cons_succ])
        refine tkW (v := ?_) 33 mD33 rfl (by kernel_rfl) (by kernel_rfl) (by kernel_rfl) (fun _ _ _ h => h) (by rfl) ?_ (by assumption) ?_
        rotate_left
        · intro w hSw; (try dsimp only at hSw); go_simp; (try with_reducible rfl)
        (try simp only [Act.put, mD33, List.setIfInBounds_toArray, List.set_cons_zero, List.set_cons_succ])
        refine tkE 34 mD34 rfl (by kernel_rfl) (fun K hK => ?_)
        go_simp
        (refine (YC.out _ (KK.out.trans (KV2.out.trans (by first | assumption | exact Kp.drew _)))).mono ?_; rintro e w' ⟨rfl, k1⟩; have k2 := Kp.trans (show Kp V2 _ from (by first | assumption | exact Kp.drew _)) k1; clear k1)
        (try go_wp2_with fail)
        refine hK.out _ _ ?_ (fun hHeld7 => ?_)
        · (try dsimp only); exact KS.out _ (by first | assumption | exact Kp.drew _)
        clear hK K hHeld6
        (try simp only [Act.put, mD34, List.setIfInBounds_toArray, List.set_cons_zero, List.set_cons_succ])
        cases cf with
        | false =>
          refine tkW (v := ?_) 35 mD35 rfl (by kernel_rfl) (by kernel_rfl) (by kernel_rfl) (fun _ _ _ h => h) (by rfl) ?_ (by assumption) ?_
          rotate_left
          · intro w hSw; (try dsimp only at hSw); go_simp; (try with_reducible rfl)
          (try simp only [Act.put, mD35, List.setIfInBounds_toArray, List.set_cons_zero, List.set_cons_succ])
          refine tkW (v := ?_) 36 mD36 rfl (by kernel_rfl) (by kernel_rfl) (by kernel_rfl) (fun _ _ _ h => h) (by rfl) ?_ (by assumption) ?_
          rotate_left
          · intro w hSw; (try dsimp only at hSw); go_simp; (try with_reducible rfl)
          (try simp only [Act.put, mD36, List.setIfInBounds_toArray, List.set_cons_zero, List.set_cons_succ])
          refine tkU 37 mD37 rfl (by kernel_rfl) (by kernel_rfl) (by kernel_rfl) (fun _ _ _ h => h) (by rfl) (by assumption) ?_
          (try simp only [Act.put, mD37, List.setIfInBounds_toArray, List.set_cons_zero, List.set_cons_succ])
          refine tkU 38 mD38 rfl (by kernel_rfl) (by kernel_rfl) (by kernel_rfl) (fun _ _ _ h => h) (by rfl) (by assumption) ?_
          (try simp only [Act.put, mD38, List.setIfInBounds_toArray, List.set_cons_zero, List.set_cons_succ])
          refine tkU 39 mD39 rfl (by kernel_rfl) (by kernel_rfl) (by kernel_rfl) (fun _ _ _ h => h) (by rfl) (by assumption) ?_
          (try simp only [Act.put, mD39, List.setIfInBounds_toArray, List.set_cons_zero, List.set_cons_succ])
          refine tkU 40 mD40 rfl (by kernel_rfl) (by kernel_rfl) (by kernel_rfl) (fun _ _ _ h => h) (by rfl) (by assumption) ?_
          (try simp only [Act.put, mD40, List.setIfInBounds_toArray, List.set_cons_zero, List.set_cons_succ])
          refine tkW (v := ?_) 41 mD41 rfl (by kernel_rfl) (by kernel_rfl) (by kernel_rfl) (fun _ _ _ h => h) (by rfl) ?_ (by assumption) ?_
          rotate_left
          · intro w hSw; (try dsimp only at hSw); go_simp; (try with_reducible rfl)
          (try simp only [Act.put, mD41, List.setIfInBounds_toArray, List.set_cons_zero, List.set_cons_succ])
          refine tkW (v := ?_) 42 mD42 rfl (by kernel_rfl) (by kernel_rfl) (by kernel_rfl) (fun _ _ _ h => h) (by rfl) ?_ (by assumption) ?_
          rotate_left
          · intro w hSw; (try dsimp only at hSw); go_simp; (try with_reducible rfl)
          (try simp only [Act.put, mD42, List.setIfInBounds_toArray, List.set_cons_zero, List.set_cons_succ])
          refine tkW (v := ?_) 43 mD43 rfl (by kernel_rfl) (by kernel_rfl) (by kernel_rfl) (fun _ _ _ h => h) (by rfl) ?_ (by assumption) ?_
          rotate_left
          · intro w hSw; (try dsimp only at hSw); go_simp; (try with_reducible rfl)
          (try simp only [Act.put, mD43, List.setIfInBounds_toArray, List.set_cons_zero, List.set_cons_succ])
          refine wpAnyH_done (by kernel_rfl) ?_ _
          go_wp2
          go_ret
          exact ⟨by first | rfl | (have := MC.out (by first | rfl | trivial); simp [this]) | simp, K00.out.trans (by first | assumption | exact Kp.drew _)⟩
        | true =>
          refine tkW (v := ?_) 35 mD35 rfl (by kernel_rfl) (by kernel_rfl) (by kernel_rfl) (fun _ _ _ h => h) (by rfl) ?_ (by assumption) ?_
          rotate_left
          · intro w hSw; (try dsimp only at hSw); go_simp; (try with_reducible rfl)
          (try simp only [Act.put, mD35, List.setIfInBounds_toArray, List.set_cons_zero, List.set_cons_succ])
          refine tkW (v := ?_) 36 mD36 rfl (by kernel_rfl) (by kernel_rfl) (by kernel_rfl) (fun _ _ _ h => h) (by rfl) ?_ (by assumption) ?_
          rotate_left
          · intro w hSw; (try dsimp only at hSw); go_simp; (try with_reducible rfl)
          (try simp only [Act.put, mD36, List.setIfInBounds_toArray, List.set_cons_zero, List.set_cons_succ])
          refine tkW (v := ?_) 37 mD37 rfl (by kernel_rfl) (by kernel_rfl) (by kernel_rfl) (fun _ _ _ h => h) (by rfl) ?_ (by assumption) ?_
          rotate_left
          · intro w hSw; (try dsimp only at hSw); go_simp; (try with_reducible rfl)
          (try simp only [Act.put, mD37, List.setIfInBounds_toArray, List.set_cons_zero, List.set_cons_succ])
          refine tkW (v := ?_) 38 mD38 rfl (by kernel_rfl) (by kernel_rfl) (by kernel_rfl) (fun _ _ _ h => h) (by rfl) ?_ (by assumption) ?_
          rotate_left
          · intro w hSw; (try dsimp only at hSw); go_simp; (try with_reducible rfl)
          (try simp only [Act.put, mD38, List.setIfInBounds_toArray, List.set_cons_zero, List.set_cons_succ])
          refine tkW (v := ?_) 39 mD39 rfl (by kernel_rfl) (by kernel_rfl) (by kernel_rfl) (fun _ _ _ h => h) (by rfl) ?_ (by assumption) ?_
          rotate_left
          · intro w hSw; (try dsimp only at hSw); go_simp; (try with_reducible rfl)
          (try simp only [Act.put, mD39, List.setIfInBounds_toArray, List.set_cons_zero, List.set_cons_succ])
          refine tkE 40 mD40 rfl (by kernel_rfl) (fun K hK => ?_)
          go_simp
          (refine (XC.out _ (KK.out.trans (KV2.out.trans (by first | assumption | exact Kp.drew _)))).mono ?_; rintro e w' ⟨rfl, k1⟩; have k2 := Kp.trans (show Kp V2 _ from (by first | assumption | exact Kp.drew _)) k1; clear k1)
          (try go_wp2_with fail)
          refine hK.out _ _ ?_ (fun hHeld8 => ?_)
          · (try dsimp only); exact KS.out _ (by first | assumption | exact Kp.drew _)
          clear hK K hHeld7
          (try simp only [Act.put, mD40, List.setIfInBounds_toArray, List.set_cons_zero, List.set_cons_succ])
          refine tkW (v := ?_) 41 mD41 rfl (by kernel_rfl) (by kernel_rfl) (by kernel_rfl) (fun _ _ _ h => h) (by rfl) ?_ (by assumption) ?_
          rotate_left
          · intro w hSw; (try dsimp only at hSw); go_simp; (try with_reducible rfl)
          (try simp only [Act.put, mD41, List.setIfInBounds_toArray, List.set_cons_zero, List.set_cons_succ])
          refine tkW (v := ?_) 42 mD42 rfl (by kernel_rfl) (by kernel_rfl) (by kernel_rfl) (fun _ _ _ h => h) (by rfl) ?_ (by assumption) ?_
          rotate_left
          · intro w hSw; (try dsimp only at hSw); go_simp; (try with_reducible rfl)
          (try simp only [Act.put, mD42, List.setIfInBounds_toArray, List.set_cons_zero, List.set_cons_succ])
          refine tkW (v := ?_) 43 mD43 rfl (by kernel_rfl) (by kernel_rfl) (by kernel_rfl) (fun _ _ _ h => h) (by rfl) ?_ (by assumption) ?_
          rotate_left
          · intro w hSw; (try dsimp only at hSw); go_simp; (try with_reducible rfl)
          (try simp only [Act.put, mD43, List.setIfInBounds_toArray, List.set_cons_zero, List.set_cons_succ])
          refine wpAnyH_done (by kernel_rfl) ?_ _
          go_wp2
          go_ret
          exact ⟨by first | rfl | (have := MC.out (by first | rfl | trivial); simp [this]) | simp, K00.out.trans (by first | assumption | exact Kp.drew _)⟩
theorem leafMore_walk (f : LF) (vaf vbf : Value) (g : LF) (vag vbg : Value) (pS pE : Int) (w : World) (raf : RunsAt w vaf f.a) (rbf : RunsAt w vbf f.b) (iaf : I64R f.a) (ibf : I64R f.b) (rag : RunsAt w vag g.a) (rbg : RunsAt w vbg g.b) (iag : I64R g.a) (ibg : I64R g.b) (hp1 : -9223372036854775808 ≤ pS) (hp2 : pS ≤ 9223372036854775807) (hp3 : -9223372036854775808 ≤ pE) (hp4 : pE ≤ 9223372036854775807) (T : Tabs w) :
    Calls Tryd.prog 5 #[leafV f vaf vbf, leafV g vag vbg, .agg #[.int .i64 pS, .int .i64 pE]] w fun e w' => e = .returned (.bool true) ∧ Kp w w' := by
  rcases Bool.eq_false_or_eq_true (fewB f) with hf | hf
  · rcases Bool.eq_false_or_eq_true (fewB g) with hg | hg
    · rcases Bool.eq_false_or_eq_true (leafB f) with hsf | hsf
      · rcases Bool.eq_false_or_eq_true (leafB g) with hsg | hsg
        · by_cases hp : f.sp = g.sp
          · by_cases hu : f.sp = false → f.u = g.u
            · rcases Bool.eq_false_or_eq_true f.sp with hsp | hsp
              · exact more_main_true f vaf vbf g vag vbg pS pE w raf rbf iaf ibf rag rbg iag ibg hp1 hp2 hp3 hp4 T hf hg hsf hsg hp hu hsp
              · exact more_main_false f vaf vbf g vag vbg pS pE w raf rbf iaf ibf rag rbg iag ibg hp1 hp2 hp3 hp4 T hf hg hsf hsg hp hu hsp
            · exact more_u f vaf vbf g vag vbg pS pE w raf rbf iaf ibf rag rbg iag ibg hp1 hp2 hp3 hp4 T hf hg hsf hsg (Classical.not_imp.1 hu).1 (hp ▸ (Classical.not_imp.1 hu).1) (Classical.not_imp.1 hu).2
          · exact more_p f vaf vbf g vag vbg pS pE w raf rbf iaf ibf rag rbg iag ibg hp1 hp2 hp3 hp4 T hf hg hsf hsg hp
        · exact more_s2 f vaf vbf g vag vbg pS pE w raf rbf iaf ibf rag rbg iag ibg hp1 hp2 hp3 hp4 T hf hg hsf hsg
      · exact more_s1 f vaf vbf g vag vbg pS pE w raf rbf iaf ibf rag rbg iag ibg hp1 hp2 hp3 hp4 T hf hg hsf
    · exact more_f2 f vaf vbf g vag vbg pS pE w raf rbf iaf ibf rag rbg iag ibg hp1 hp2 hp3 hp4 T hf hg
  · exact more_f1 f vaf vbf g vag vbg pS pE w raf rbf iaf ibf rag rbg iag ibg hp1 hp2 hp3 hp4 T hf
end Go.Proofs.YtbahhgpaafgpoaaDoor
