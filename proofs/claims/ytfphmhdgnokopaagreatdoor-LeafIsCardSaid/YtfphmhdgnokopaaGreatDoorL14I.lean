/-
  Layer 14: the walk of LeafIs.
-/
import Derived.Test.YtfphmhdgnokopaaGreatDoorGRefB
import Derived.Test.YtfphmhdgnokopaaGreatDoorL14F
import Derived.Test.YtfphmhdgnokopaaGreatDoorGLeafB
import Derived.Test.YtfphmhdgnokopaaGreatDoorGLeafA
namespace Go.Proofs.YtfphmhdgnokopaaGreatDoor
open Go.RowKit
set_option linter.unusedVariables false
set_option linter.unusedSimpArgs false
abbrev iA0 : Oper := { dst := some 43, op := Go.Op.move (Go.Operand.tmp 11), type := 4, pos := "law.go:31", after := #[], guard := none }
abbrev iA1 : Oper := { dst := some 44, op := Go.Op.move (Go.Operand.tmp 13), type := 4, pos := "law.go:31", after := #[], guard := none }
abbrev iA2 : Oper := { dst := some 45, op := Go.Op.binOp Go.BinOp.neq 4 (Go.Operand.tmp 43) (Go.Operand.tmp 44) 4, type := 4, pos := "law.go:31", after := #[{ on := 0, ground := Go.Ground.data }, { on := 1, ground := Go.Ground.data }], guard := none }
abbrev iA3 : Oper := { dst := some 46, op := Go.Op.move (Go.Operand.tmp 45), type := 4, pos := "law.go:31", after := #[{ on := 2, ground := Go.Ground.data }], guard := none }
abbrev iA4 : Oper := { dst := some 47, op := Go.Op.move (Go.Operand.tmp 15), type := 4, pos := "law.go:31", after := #[{ on := 3, ground := Go.Ground.guard }], guard := some (3, false) }
abbrev iA5 : Oper := { dst := some 48, op := Go.Op.move (Go.Operand.tmp 17), type := 4, pos := "law.go:31", after := #[{ on := 3, ground := Go.Ground.guard }], guard := some (3, false) }
abbrev iA6 : Oper := { dst := some 49, op := Go.Op.binOp Go.BinOp.neq 4 (Go.Operand.tmp 47) (Go.Operand.tmp 48) 4, type := 4, pos := "law.go:31", after := #[{ on := 4, ground := Go.Ground.data }, { on := 5, ground := Go.Ground.data }, { on := 3, ground := Go.Ground.guard }], guard := some (3, false) }
abbrev iA7 : Oper := { dst := some 50, op := Go.Op.pick (Go.Operand.tmp 46) (Go.Operand.const (Go.Value.bool true)) (Go.Operand.tmp 49), type := 4, pos := "law.go:31", after := #[{ on := 3, ground := Go.Ground.data }, { on := 6, ground := Go.Ground.data }], guard := none }
abbrev iA8 : Oper := { dst := some 51, op := Go.Op.move (Go.Operand.tmp 50), type := 4, pos := "law.go:31", after := #[{ on := 7, ground := Go.Ground.data }, { on := 3, ground := Go.Ground.chain }], guard := none }
abbrev iA9 : Oper := { dst := some 52, op := Go.Op.move (Go.Operand.tmp 10), type := 22, pos := "law.go:31", after := #[{ on := 8, ground := Go.Ground.guard }], guard := some (8, false) }
abbrev iA10 : Oper := { dst := some 53, op := Go.Op.move (Go.Operand.tmp 12), type := 22, pos := "law.go:31", after := #[{ on := 8, ground := Go.Ground.guard }], guard := some (8, false) }
abbrev iA11 : Oper := { dst := some 54, op := Go.Op.call { callee := Go.Callee.value (Go.Operand.func 16), args := #[Go.Operand.tmp 52, Go.Operand.tmp 53], argTypes := #[22, 22] }, type := 4, pos := "law.go:31", after := #[{ on := 9, ground := Go.Ground.data }, { on := 10, ground := Go.Ground.data }, { on := 8, ground := Go.Ground.chain }, { on := 8, ground := Go.Ground.guard }], guard := some (8, false) }
abbrev iA12 : Oper := { dst := some 55, op := Go.Op.unOp Go.UnOp.not 4 (Go.Operand.tmp 54), type := 4, pos := "law.go:31", after := #[{ on := 11, ground := Go.Ground.data }, { on := 8, ground := Go.Ground.guard }], guard := some (8, false) }
abbrev iA13 : Oper := { dst := some 56, op := Go.Op.pick (Go.Operand.tmp 51) (Go.Operand.const (Go.Value.bool true)) (Go.Operand.tmp 55), type := 4, pos := "law.go:31", after := #[{ on := 8, ground := Go.Ground.data }, { on := 12, ground := Go.Ground.data }], guard := none }
abbrev iA14 : Oper := { dst := some 57, op := Go.Op.move (Go.Operand.tmp 56), type := 4, pos := "law.go:31", after := #[{ on := 13, ground := Go.Ground.data }, { on := 11, ground := Go.Ground.chain }], guard := none }
abbrev iA15 : Oper := { dst := some 58, op := Go.Op.move (Go.Operand.tmp 14), type := 22, pos := "law.go:31", after := #[{ on := 14, ground := Go.Ground.guard }], guard := some (14, false) }
abbrev iA16 : Oper := { dst := some 59, op := Go.Op.move (Go.Operand.tmp 16), type := 22, pos := "law.go:31", after := #[{ on := 14, ground := Go.Ground.guard }], guard := some (14, false) }
abbrev iA17 : Oper := { dst := some 60, op := Go.Op.call { callee := Go.Callee.value (Go.Operand.func 16), args := #[Go.Operand.tmp 58, Go.Operand.tmp 59], argTypes := #[22, 22] }, type := 4, pos := "law.go:31", after := #[{ on := 15, ground := Go.Ground.data }, { on := 16, ground := Go.Ground.data }, { on := 14, ground := Go.Ground.chain }, { on := 14, ground := Go.Ground.guard }], guard := some (14, false) }
abbrev iA18 : Oper := { dst := some 61, op := Go.Op.unOp Go.UnOp.not 4 (Go.Operand.tmp 60), type := 4, pos := "law.go:31", after := #[{ on := 17, ground := Go.Ground.data }, { on := 14, ground := Go.Ground.guard }], guard := some (14, false) }
abbrev iA19 : Oper := { dst := some 62, op := Go.Op.pick (Go.Operand.tmp 57) (Go.Operand.const (Go.Value.bool true)) (Go.Operand.tmp 61), type := 4, pos := "law.go:31", after := #[{ on := 14, ground := Go.Ground.data }, { on := 18, ground := Go.Ground.data }], guard := none }
abbrev iA20 : Oper := { dst := some 63, op := Go.Op.move (Go.Operand.tmp 62), type := 4, pos := "law.go:31", after := #[{ on := 19, ground := Go.Ground.data }, { on := 17, ground := Go.Ground.chain }], guard := none }
abbrev iA21 : Oper := { dst := some 64, op := Go.Op.load 24 (Go.Operand.tmp 4), type := 24, pos := "law.go:31", after := #[{ on := 20, ground := Go.Ground.guard }], guard := some (20, false) }
abbrev iA22 : Oper := { dst := some 65, op := Go.Op.call { callee := Go.Callee.value (Go.Operand.func 17), args := #[Go.Operand.tmp 64], argTypes := #[24] }, type := 4, pos := "law.go:31", after := #[{ on := 21, ground := Go.Ground.data }, { on := 20, ground := Go.Ground.chain }, { on := 20, ground := Go.Ground.guard }], guard := some (20, false) }
abbrev iA23 : Oper := { dst := some 66, op := Go.Op.load 24 (Go.Operand.tmp 4), type := 24, pos := "law.go:31", after := #[{ on := 20, ground := Go.Ground.guard }], guard := some (20, false) }
abbrev iA24 : Oper := { dst := some 67, op := Go.Op.call { callee := Go.Callee.value (Go.Operand.func 18), args := #[Go.Operand.tmp 66], argTypes := #[24] }, type := 4, pos := "law.go:31", after := #[{ on := 23, ground := Go.Ground.data }, { on := 22, ground := Go.Ground.chain }, { on := 20, ground := Go.Ground.guard }], guard := some (20, false) }
abbrev iA25 : Oper := { dst := some 68, op := Go.Op.binOp Go.BinOp.neq 4 (Go.Operand.tmp 65) (Go.Operand.tmp 67) 4, type := 4, pos := "law.go:31", after := #[{ on := 22, ground := Go.Ground.data }, { on := 24, ground := Go.Ground.data }, { on := 20, ground := Go.Ground.guard }], guard := some (20, false) }
abbrev iA26 : Oper := { dst := some 69, op := Go.Op.pick (Go.Operand.tmp 63) (Go.Operand.const (Go.Value.bool true)) (Go.Operand.tmp 68), type := 4, pos := "law.go:31", after := #[{ on := 20, ground := Go.Ground.data }, { on := 25, ground := Go.Ground.data }], guard := none }
abbrev iA27 : Oper := { dst := some 70, op := Go.Op.move (Go.Operand.tmp 69), type := 4, pos := "law.go:31", after := #[{ on := 26, ground := Go.Ground.data }, { on := 24, ground := Go.Ground.chain }], guard := none }
abbrev iA28 : Oper := { dst := some 71, op := Go.Op.load 24 (Go.Operand.tmp 4), type := 24, pos := "law.go:31", after := #[{ on := 27, ground := Go.Ground.guard }], guard := some (27, false) }
abbrev iA29 : Oper := { dst := some 72, op := Go.Op.call { callee := Go.Callee.value (Go.Operand.func 19), args := #[Go.Operand.tmp 71], argTypes := #[24] }, type := 4, pos := "law.go:31", after := #[{ on := 28, ground := Go.Ground.data }, { on := 27, ground := Go.Ground.chain }, { on := 27, ground := Go.Ground.guard }], guard := some (27, false) }
abbrev iA30 : Oper := { dst := some 73, op := Go.Op.load 24 (Go.Operand.tmp 4), type := 24, pos := "law.go:31", after := #[{ on := 27, ground := Go.Ground.guard }], guard := some (27, false) }
abbrev iA31 : Oper := { dst := some 74, op := Go.Op.call { callee := Go.Callee.value (Go.Operand.func 20), args := #[Go.Operand.tmp 73], argTypes := #[24] }, type := 4, pos := "law.go:31", after := #[{ on := 30, ground := Go.Ground.data }, { on := 29, ground := Go.Ground.chain }, { on := 27, ground := Go.Ground.guard }], guard := some (27, false) }
abbrev iA32 : Oper := { dst := some 75, op := Go.Op.binOp Go.BinOp.neq 4 (Go.Operand.tmp 72) (Go.Operand.tmp 74) 4, type := 4, pos := "law.go:31", after := #[{ on := 29, ground := Go.Ground.data }, { on := 31, ground := Go.Ground.data }, { on := 27, ground := Go.Ground.guard }], guard := some (27, false) }
abbrev iA33 : Oper := { dst := some 76, op := Go.Op.pick (Go.Operand.tmp 70) (Go.Operand.const (Go.Value.bool true)) (Go.Operand.tmp 75), type := 4, pos := "law.go:31", after := #[{ on := 27, ground := Go.Ground.data }, { on := 32, ground := Go.Ground.data }], guard := none }
abbrev iB0 : Oper := { dst := some 77, op := Go.Op.move (Go.Operand.tmp 9), type := 4, pos := "law.go:34", after := #[], guard := none }
abbrev iB1 : Oper := { dst := some 78, op := Go.Op.move (Go.Operand.tmp 77), type := 4, pos := "law.go:34", after := #[{ on := 0, ground := Go.Ground.data }], guard := none }
abbrev iB2 : Oper := { dst := some 79, op := Go.Op.load 24 (Go.Operand.tmp 4), type := 24, pos := "law.go:34", after := #[{ on := 1, ground := Go.Ground.guard }], guard := some (1, true) }
abbrev iB3 : Oper := { dst := some 80, op := Go.Op.load 26 (Go.Operand.tmp 5), type := 26, pos := "law.go:34", after := #[{ on := 1, ground := Go.Ground.guard }], guard := some (1, true) }
abbrev iB4 : Oper := { dst := some 81, op := Go.Op.call { callee := Go.Callee.value (Go.Operand.func 21), args := #[Go.Operand.tmp 79, Go.Operand.tmp 80], argTypes := #[24, 26] }, type := 4, pos := "law.go:34", after := #[{ on := 2, ground := Go.Ground.data }, { on := 3, ground := Go.Ground.data }, { on := 1, ground := Go.Ground.chain }, { on := 1, ground := Go.Ground.guard }], guard := some (1, true) }
abbrev iB5 : Oper := { dst := some 82, op := Go.Op.load 24 (Go.Operand.tmp 4), type := 24, pos := "law.go:34", after := #[{ on := 1, ground := Go.Ground.guard }], guard := some (1, true) }
abbrev iB6 : Oper := { dst := some 83, op := Go.Op.load 26 (Go.Operand.tmp 5), type := 26, pos := "law.go:34", after := #[{ on := 1, ground := Go.Ground.guard }], guard := some (1, true) }
abbrev iB7 : Oper := { dst := some 84, op := Go.Op.call { callee := Go.Callee.value (Go.Operand.func 22), args := #[Go.Operand.tmp 82, Go.Operand.tmp 83], argTypes := #[24, 26] }, type := 4, pos := "law.go:34", after := #[{ on := 5, ground := Go.Ground.data }, { on := 6, ground := Go.Ground.data }, { on := 4, ground := Go.Ground.chain }, { on := 1, ground := Go.Ground.guard }], guard := some (1, true) }
abbrev iB8 : Oper := { dst := some 85, op := Go.Op.binOp Go.BinOp.eql 4 (Go.Operand.tmp 81) (Go.Operand.tmp 84) 4, type := 4, pos := "law.go:34", after := #[{ on := 4, ground := Go.Ground.data }, { on := 7, ground := Go.Ground.data }, { on := 1, ground := Go.Ground.guard }], guard := some (1, true) }
abbrev iB9 : Oper := { dst := some 86, op := Go.Op.pick (Go.Operand.tmp 78) (Go.Operand.tmp 85) (Go.Operand.const (Go.Value.bool false)), type := 4, pos := "law.go:34", after := #[{ on := 1, ground := Go.Ground.data }, { on := 8, ground := Go.Ground.data }], guard := none }
abbrev iB10 : Oper := { dst := some 87, op := Go.Op.move (Go.Operand.tmp 86), type := 4, pos := "law.go:34", after := #[{ on := 9, ground := Go.Ground.data }, { on := 7, ground := Go.Ground.chain }], guard := none }
abbrev iB11 : Oper := { dst := some 88, op := Go.Op.load 24 (Go.Operand.tmp 4), type := 24, pos := "law.go:34", after := #[{ on := 10, ground := Go.Ground.guard }], guard := some (10, true) }
abbrev iB12 : Oper := { dst := some 89, op := Go.Op.move (Go.Operand.tmp 2), type := 3, pos := "law.go:34", after := #[{ on := 10, ground := Go.Ground.guard }], guard := some (10, true) }
abbrev iB13 : Oper := { dst := some 90, op := Go.Op.call { callee := Go.Callee.value (Go.Operand.func 23), args := #[Go.Operand.tmp 88, Go.Operand.tmp 89], argTypes := #[24, 3] }, type := 4, pos := "law.go:34", after := #[{ on := 11, ground := Go.Ground.data }, { on := 12, ground := Go.Ground.data }, { on := 10, ground := Go.Ground.chain }, { on := 10, ground := Go.Ground.guard }], guard := some (10, true) }
abbrev iB14 : Oper := { dst := some 91, op := Go.Op.load 24 (Go.Operand.tmp 4), type := 24, pos := "law.go:34", after := #[{ on := 10, ground := Go.Ground.guard }], guard := some (10, true) }
abbrev iB15 : Oper := { dst := some 92, op := Go.Op.move (Go.Operand.tmp 2), type := 3, pos := "law.go:34", after := #[{ on := 10, ground := Go.Ground.guard }], guard := some (10, true) }
abbrev iB16 : Oper := { dst := some 93, op := Go.Op.call { callee := Go.Callee.value (Go.Operand.func 24), args := #[Go.Operand.tmp 91, Go.Operand.tmp 92], argTypes := #[24, 3] }, type := 4, pos := "law.go:34", after := #[{ on := 14, ground := Go.Ground.data }, { on := 15, ground := Go.Ground.data }, { on := 13, ground := Go.Ground.chain }, { on := 10, ground := Go.Ground.guard }], guard := some (10, true) }
abbrev iB17 : Oper := { dst := some 94, op := Go.Op.binOp Go.BinOp.eql 4 (Go.Operand.tmp 90) (Go.Operand.tmp 93) 4, type := 4, pos := "law.go:34", after := #[{ on := 13, ground := Go.Ground.data }, { on := 16, ground := Go.Ground.data }, { on := 10, ground := Go.Ground.guard }], guard := some (10, true) }
abbrev iB18 : Oper := { dst := some 95, op := Go.Op.pick (Go.Operand.tmp 87) (Go.Operand.tmp 94) (Go.Operand.const (Go.Value.bool false)), type := 4, pos := "law.go:34", after := #[{ on := 10, ground := Go.Ground.data }, { on := 17, ground := Go.Ground.data }], guard := none }
abbrev iB19 : Oper := { dst := some 96, op := Go.Op.move (Go.Operand.tmp 95), type := 4, pos := "law.go:34", after := #[{ on := 18, ground := Go.Ground.data }, { on := 16, ground := Go.Ground.chain }], guard := none }
abbrev iB20 : Oper := { dst := some 97, op := Go.Op.load 24 (Go.Operand.tmp 4), type := 24, pos := "law.go:34", after := #[{ on := 19, ground := Go.Ground.guard }], guard := some (19, true) }
abbrev iB21 : Oper := { dst := some 98, op := Go.Op.move (Go.Operand.tmp 3), type := 3, pos := "law.go:34", after := #[{ on := 19, ground := Go.Ground.guard }], guard := some (19, true) }
abbrev iB22 : Oper := { dst := some 99, op := Go.Op.call { callee := Go.Callee.value (Go.Operand.func 26), args := #[Go.Operand.tmp 97, Go.Operand.tmp 98], argTypes := #[24, 3] }, type := 35, pos := "law.go:34", after := #[{ on := 20, ground := Go.Ground.data }, { on := 21, ground := Go.Ground.data }, { on := 19, ground := Go.Ground.chain }, { on := 19, ground := Go.Ground.guard }], guard := some (19, true) }
abbrev iB23 : Oper := { dst := some 100, op := Go.Op.load 24 (Go.Operand.tmp 4), type := 24, pos := "law.go:34", after := #[{ on := 19, ground := Go.Ground.guard }], guard := some (19, true) }
abbrev iB24 : Oper := { dst := some 101, op := Go.Op.move (Go.Operand.tmp 3), type := 3, pos := "law.go:34", after := #[{ on := 19, ground := Go.Ground.guard }], guard := some (19, true) }
abbrev iB25 : Oper := { dst := some 102, op := Go.Op.call { callee := Go.Callee.value (Go.Operand.func 27), args := #[Go.Operand.tmp 100, Go.Operand.tmp 101], argTypes := #[24, 3] }, type := 35, pos := "law.go:34", after := #[{ on := 23, ground := Go.Ground.data }, { on := 24, ground := Go.Ground.data }, { on := 22, ground := Go.Ground.chain }, { on := 19, ground := Go.Ground.guard }], guard := some (19, true) }
abbrev iB26 : Oper := { dst := some 103, op := Go.Op.call { callee := Go.Callee.value (Go.Operand.func 25), args := #[Go.Operand.tmp 99, Go.Operand.tmp 102], argTypes := #[35, 35] }, type := 4, pos := "law.go:34", after := #[{ on := 22, ground := Go.Ground.data }, { on := 25, ground := Go.Ground.data }, { on := 25, ground := Go.Ground.chain }, { on := 19, ground := Go.Ground.guard }], guard := some (19, true) }
abbrev iB27 : Oper := { dst := some 104, op := Go.Op.pick (Go.Operand.tmp 96) (Go.Operand.tmp 103) (Go.Operand.const (Go.Value.bool false)), type := 4, pos := "law.go:34", after := #[{ on := 19, ground := Go.Ground.data }, { on := 26, ground := Go.Ground.data }], guard := none }
abbrev iB28 : Oper := { dst := some 105, op := Go.Op.move (Go.Operand.tmp 104), type := 4, pos := "law.go:34", after := #[{ on := 27, ground := Go.Ground.data }, { on := 26, ground := Go.Ground.chain }], guard := none }
abbrev iB29 : Oper := { dst := some 106, op := Go.Op.load 24 (Go.Operand.tmp 4), type := 24, pos := "law.go:34", after := #[{ on := 28, ground := Go.Ground.guard }], guard := some (28, true) }
abbrev iB30 : Oper := { dst := some 107, op := Go.Op.call { callee := Go.Callee.value (Go.Operand.func 29), args := #[Go.Operand.tmp 106], argTypes := #[24] }, type := 24, pos := "law.go:34", after := #[{ on := 29, ground := Go.Ground.data }, { on := 28, ground := Go.Ground.chain }, { on := 28, ground := Go.Ground.guard }], guard := some (28, true) }
abbrev iB31 : Oper := { dst := some 108, op := Go.Op.load 24 (Go.Operand.tmp 4), type := 24, pos := "law.go:34", after := #[{ on := 28, ground := Go.Ground.guard }], guard := some (28, true) }
abbrev iB32 : Oper := { dst := some 109, op := Go.Op.call { callee := Go.Callee.value (Go.Operand.func 30), args := #[Go.Operand.tmp 108], argTypes := #[24] }, type := 24, pos := "law.go:34", after := #[{ on := 31, ground := Go.Ground.data }, { on := 30, ground := Go.Ground.chain }, { on := 28, ground := Go.Ground.guard }], guard := some (28, true) }
abbrev iB33 : Oper := { dst := some 110, op := Go.Op.call { callee := Go.Callee.value (Go.Operand.func 28), args := #[Go.Operand.tmp 107, Go.Operand.tmp 109], argTypes := #[24, 24] }, type := 4, pos := "law.go:34", after := #[{ on := 30, ground := Go.Ground.data }, { on := 32, ground := Go.Ground.data }, { on := 32, ground := Go.Ground.chain }, { on := 28, ground := Go.Ground.guard }], guard := some (28, true) }
abbrev iB34 : Oper := { dst := some 111, op := Go.Op.pick (Go.Operand.tmp 105) (Go.Operand.tmp 110) (Go.Operand.const (Go.Value.bool false)), type := 4, pos := "law.go:34", after := #[{ on := 28, ground := Go.Ground.data }, { on := 33, ground := Go.Ground.data }], guard := none }
abbrev iB35 : Oper := { dst := some 8, op := Go.Op.assign (Go.Operand.tmp 111), type := 4, pos := "law.go:34", after := #[{ on := 34, ground := Go.Ground.data }, { on := 33, ground := Go.Ground.chain }, { on := 0, ground := Go.Ground.phase }, { on := 1, ground := Go.Ground.phase }, { on := 2, ground := Go.Ground.phase }, { on := 3, ground := Go.Ground.phase }, { on := 4, ground := Go.Ground.phase }, { on := 5, ground := Go.Ground.phase }, { on := 6, ground := Go.Ground.phase }, { on := 7, ground := Go.Ground.phase }, { on := 8, ground := Go.Ground.phase }, { on := 9, ground := Go.Ground.phase }, { on := 10, ground := Go.Ground.phase }, { on := 11, ground := Go.Ground.phase }, { on := 12, ground := Go.Ground.phase }, { on := 13, ground := Go.Ground.phase }, { on := 14, ground := Go.Ground.phase }, { on := 15, ground := Go.Ground.phase }, { on := 16, ground := Go.Ground.phase }, { on := 17, ground := Go.Ground.phase }, { on := 18, ground := Go.Ground.phase }, { on := 19, ground := Go.Ground.phase }, { on := 20, ground := Go.Ground.phase }, { on := 21, ground := Go.Ground.phase }, { on := 22, ground := Go.Ground.phase }, { on := 23, ground := Go.Ground.phase }, { on := 24, ground := Go.Ground.phase }, { on := 25, ground := Go.Ground.phase }, { on := 26, ground := Go.Ground.phase }, { on := 27, ground := Go.Ground.phase }, { on := 28, ground := Go.Ground.phase }, { on := 29, ground := Go.Ground.phase }, { on := 30, ground := Go.Ground.phase }, { on := 31, ground := Go.Ground.phase }, { on := 32, ground := Go.Ground.phase }, { on := 33, ground := Go.Ground.phase }, { on := 34, ground := Go.Ground.phase }], guard := none }
set_option maxHeartbeats 16000000 in
set_option maxRecDepth 100000 in
theorem lis_few (f : LF) (vaf vbf : Value) (pS pE : Int) (day : Int) (n : Int) (w : World) (raf : RunsAt w vaf f.a) (rbf : RunsAt w vbf f.b) (iaf : I64R f.a) (ibf : I64R f.b) (hp1 : -9223372036854775808 ≤ pS) (hp2 : pS ≤ 9223372036854775807) (hp3 : -9223372036854775808 ≤ pE) (hp4 : pE ≤ 9223372036854775807) (hday1 : -9223372036854775808 ≤ day) (hday2 : day ≤ 9223372036854775807) (hn1 : -9223372036854775808 ≤ n) (hn2 : n ≤ 9223372036854775807) (T : Tabs w) (hf : fewB f = false) :
    Calls Tryz.prog 3 #[leafV f vaf vbf, .agg #[.int .i64 pS, .int .i64 pE], .int .i64 day, .int .i64 n] w fun e w' => e = .returned (.bool true) ∧ Kp w w' := by
  have RFW := Lib.hid (fun w1 (kk : Kp w w1) => few_any f vaf vbf w1 (raf.kp kk) (rbf.kp kk))
  rw [hf] at RFW
  obtain ⟨spf, uf, af, bf⟩ := f
  obtain ⟨adf, caf, rfl⟩ := raf.slice
  obtain ⟨bdf, cbf, rfl⟩ := rbf.slice
  unfold leafV at *
  simp only at *
  obtain ⟨W0, hW⟩ : ∃ W0, W0 = (w.alloc (.cells #[.bool spf, .int .i64 uf, .slice adf af.length caf, .slice bdf bf.length cbf] 24)).alloc (.cells #[.int .i64 pS, .int .i64 pE] 26) := ⟨_, rfl⟩
  have K00 := Lib.hid (show Kp w W0 by rw [hW]; exact (Kp.alloc _ _).trans (Kp.alloc _ _))
  have HB := Lib.hid (fun w1 (k : Kp W0 w1) => show w1.cell? ⟨w.heap.size, 0, none⟩ = some (.bool spf) ∧ w1.cell? ⟨w.heap.size, 1, none⟩ = some (.int .i64 uf) ∧ w1.cell? ⟨w.heap.size, 2, none⟩ = some (.slice adf af.length caf) ∧ w1.cell? ⟨w.heap.size, 3, none⟩ = some (.slice bdf bf.length cbf) ∧ w1.cell? ⟨w.heap.size + 1, 0, none⟩ = some (.int .i64 pS) ∧ w1.cell? ⟨w.heap.size + 1, 1, none⟩ = some (.int .i64 pE) from ⟨cell_up k (show W0.cell? ⟨w.heap.size, 0, none⟩ = some (.bool spf) by rw [hW]; simp), cell_up k (show W0.cell? ⟨w.heap.size, 1, none⟩ = some (.int .i64 uf) by rw [hW]; simp), cell_up k (show W0.cell? ⟨w.heap.size, 2, none⟩ = some (.slice adf af.length caf) by rw [hW]; simp), cell_up k (show W0.cell? ⟨w.heap.size, 3, none⟩ = some (.slice bdf bf.length cbf) by rw [hW]; simp), cell_up k (show W0.cell? ⟨w.heap.size + 1, 0, none⟩ = some (.int .i64 pS) by rw [hW]; simp), cell_up k (show W0.cell? ⟨w.heap.size + 1, 1, none⟩ = some (.int .i64 pE) by rw [hW]; simp)⟩)
  obtain ⟨c0, c1, c2, c3, c4, c5⟩ := HB.out W0 (Kp.refl _)
  have K0 := Lib.hid (Kp.refl W0)
  have HW := Lib.hid hW
  clear hW
  have AW := Lib.hid (fun w1 (kk : Kp W0 w1) => awake14 w1 (T.kp (K00.out.trans kk)))
  have FW := Lib.hid (fun w1 (kk : Kp W0 w1) => RFW.out w1 (K00.out.trans kk))
  clear raf rbf T
  go_enter Tryz.func3, Tryz.ntmps3
  go_wp2_with fail
  rw [← HW.out]
  refine (AW.out _ (by first | with_reducible exact K0.out | with_reducible exact K0.out.trans (Kp.alloc _ _) | with_reducible exact (K0.out.trans (Kp.alloc _ _)).trans (Kp.alloc _ _) | with_reducible exact ((K0.out.trans (Kp.alloc _ _)).trans (Kp.alloc _ _)).trans (Kp.alloc _ _) | with_reducible exact K0.out.trans (Kp.drew _) | with_reducible exact K0.out.trans (Kp.drewN _ _))).mono ?_
  rintro e w1 ⟨rfl, kk⟩
  have K1 := Lib.hid ((show Kp W0 _ from (by first | with_reducible exact K0.out | with_reducible exact K0.out.trans (Kp.alloc _ _) | with_reducible exact (K0.out.trans (Kp.alloc _ _)).trans (Kp.alloc _ _) | with_reducible exact ((K0.out.trans (Kp.alloc _ _)).trans (Kp.alloc _ _)).trans (Kp.alloc _ _) | with_reducible exact K0.out.trans (Kp.drew _) | with_reducible exact K0.out.trans (Kp.drewN _ _))).trans kk)
  clear kk
  clear c0 c1 c2 c3 c4 c5
  obtain ⟨c0, c1, c2, c3, c4, c5⟩ := HB.out w1 K1.out
  go_wp2_with fail
  refine (FW.out _ (by first | with_reducible exact K1.out | with_reducible exact K1.out.trans (Kp.alloc _ _) | with_reducible exact (K1.out.trans (Kp.alloc _ _)).trans (Kp.alloc _ _) | with_reducible exact ((K1.out.trans (Kp.alloc _ _)).trans (Kp.alloc _ _)).trans (Kp.alloc _ _) | with_reducible exact K1.out.trans (Kp.drew _) | with_reducible exact K1.out.trans (Kp.drewN _ _))).mono ?_
  rintro e w2 ⟨rfl, kk⟩
  have K2 := Lib.hid ((show Kp W0 _ from (by first | with_reducible exact K1.out | with_reducible exact K1.out.trans (Kp.alloc _ _) | with_reducible exact (K1.out.trans (Kp.alloc _ _)).trans (Kp.alloc _ _) | with_reducible exact ((K1.out.trans (Kp.alloc _ _)).trans (Kp.alloc _ _)).trans (Kp.alloc _ _) | with_reducible exact K1.out.trans (Kp.drew _) | with_reducible exact K1.out.trans (Kp.drewN _ _))).trans kk)
  clear kk
  clear c0 c1 c2 c3 c4 c5
  obtain ⟨c0, c1, c2, c3, c4, c5⟩ := HB.out w2 K2.out
  go_wp2
  go_ret
  exact ⟨rfl, K00.out.trans K2.out⟩
set_option maxHeartbeats 16000000 in
set_option maxRecDepth 100000 in
theorem lis_main (f : LF) (vaf vbf : Value) (pS pE : Int) (day : Int) (n : Int) (w : World) (raf : RunsAt w vaf f.a) (rbf : RunsAt w vbf f.b) (iaf : I64R f.a) (ibf : I64R f.b) (hp1 : -9223372036854775808 ≤ pS) (hp2 : pS ≤ 9223372036854775807) (hp3 : -9223372036854775808 ≤ pE) (hp4 : pE ≤ 9223372036854775807) (hday1 : -9223372036854775808 ≤ day) (hday2 : day ≤ 9223372036854775807) (hn1 : -9223372036854775808 ≤ n) (hn2 : n ≤ 9223372036854775807) (T : Tabs w) (hf : fewB f = true) :
    Calls Tryz.prog 3 #[leafV f vaf vbf, .agg #[.int .i64 pS, .int .i64 pE], .int .i64 day, .int .i64 n] w fun e w' => e = .returned (.bool true) ∧ Kp w w' := by
  have RFW := Lib.hid (fun w1 (kk : Kp w w1) => few_any f vaf vbf w1 (raf.kp kk) (rbf.kp kk))
  rw [hf] at RFW
  obtain ⟨m1, m2⟩ := fewB_yes hf
  have OK : LeafOk w f vaf vbf := ⟨raf, rbf, iaf, ibf, by omega, by omega⟩
  have Q1 := Lib.hid (fun w1 (kk : Kp w w1) => leafStarts_any f vaf vbf w1 (OK.kp kk) (T.kp kk))
  have Q2 := Lib.hid (fun w1 (kk : Kp w w1) => refLStarts_any f vaf vbf w1 (OK.kp kk))
  have Q3 := Lib.hid (fun w1 (kk : Kp w w1) => leafEnds_any f vaf vbf w1 (OK.kp kk) (T.kp kk))
  have Q4 := Lib.hid (fun w1 (kk : Kp w w1) => refLEnds_any f vaf vbf w1 (OK.kp kk))
  have Q5 := Lib.hid (fun w1 (kk : Kp w w1) => leafSane_any f vaf vbf w1 (raf.kp kk) (rbf.kp kk) iaf ibf (by omega) (by omega) (T.kp kk).2)
  have Q6 := Lib.hid (fun w1 (kk : Kp w w1) => refSane_any f vaf vbf w1 (raf.kp kk) (rbf.kp kk) iaf ibf (by omega) (by omega))
  have Q7 := Lib.hid (fun w1 (kk : Kp w w1) => leafEmpty_any f vaf vbf w1 (OK.kp kk) (T.kp kk).2)
  have Q8 := Lib.hid (fun w1 (kk : Kp w w1) => refEmpty_any f vaf vbf w1 (OK.kp kk))
  have Q9 := Lib.hid (fun w1 (kk : Kp w w1) => leafHas_any f vaf vbf pS pE w1 (OK.kp kk) (T.kp kk) hp1 hp2 hp3 hp4)
  have Q10 := Lib.hid (fun w1 (kk : Kp w w1) => refHas_any f vaf vbf pS pE w1 (OK.kp kk) hp1 hp2)
  have Q11 := Lib.hid (fun w1 (kk : Kp w w1) => leafCovers_any f vaf vbf day w1 (OK.kp kk) (T.kp kk))
  have Q12 := Lib.hid (fun w1 (kk : Kp w w1) => refCovers_any f vaf vbf day w1 (OK.kp kk) hday1 hday2)
  have Q13 := Lib.hid (fun w1 (kk : Kp w w1) => leafPairs_any f vaf vbf n w1 (OK.kp kk) (T.kp kk))
  have Q14 := Lib.hid (fun w1 (kk : Kp w w1) => refPairs_any f vaf vbf n w1 (OK.kp kk) hn1 hn2)
  have Q15 := Lib.hid (fun w1 (kk : Kp w w1) => leafTidy_any f vaf vbf w1 (OK.kp kk) (T.kp kk))
  have Q16 := Lib.hid (fun w1 (kk : Kp w w1) => refTidy_any f vaf vbf w1 (OK.kp kk))
  have sl := starts_len (famR f)
  have el := ends_len (famR f)
  have pl : ((pairsF (famR f)).take (min n 1000).toNat).length ≤ 1000 := by rw [List.length_take]; omega
  generalize startsB (famR f) = b1 at *
  generalize startsR (famR f) = L1 at *
  generalize endsB (famR f) = b2 at *
  generalize endsR (famR f) = L2 at *
  generalize leafB f = b3 at *
  generalize emptyF (famR f) = b4 at *
  generalize hasF (famR f) pS pE = b5 at *
  generalize coversF (famR f) day = b6 at *
  generalize (pairsF (famR f)).take (min n 1000).toNat = P at *
  generalize lfOf (famR f) = g at *
  have S1 := Lib.hid (fun v u w1 (h : RunsAt w1 v L1) (h' : RunsAt w1 u L1) => same_any v u L1 w1 h h' (by omega))
  have S2 := Lib.hid (fun v u w1 (h : RunsAt w1 v L2) (h' : RunsAt w1 u L2) => same_any v u L2 w1 h h' (by omega))
  have SP := Lib.hid (fun v u w1 (h : RunsAt w1 v P) (h' : RunsAt w1 u P) => samePairs_yes v u P w1 h h' (by omega))
  have SM := Lib.hid (fun va vb ua ub w1 (h : LeafOk w1 g va vb) (h' : LeafOk w1 g ua ub) => same14_yes g va vb ua ub w1 h h')
  obtain ⟨gs, gu, ga, gb⟩ := g
  have y1 : (b1 == b1) = true := by simp
  have z1 : (b1 != b1) = false := by simp
  have y2 : (b2 == b2) = true := by simp
  have z2 : (b2 != b2) = false := by simp
  have y3 : (b3 == b3) = true := by simp
  have z3 : (b3 != b3) = false := by simp
  have y4 : (b4 == b4) = true := by simp
  have z4 : (b4 != b4) = false := by simp
  have y5 : (b5 == b5) = true := by simp
  have z5 : (b5 != b5) = false := by simp
  have y6 : (b6 == b6) = true := by simp
  have z6 : (b6 != b6) = false := by simp
  clear OK sl el pl m1 m2
  obtain ⟨spf, uf, af, bf⟩ := f
  obtain ⟨adf, caf, rfl⟩ := raf.slice
  obtain ⟨bdf, cbf, rfl⟩ := rbf.slice
  unfold leafV at *
  simp only at *
  obtain ⟨W0, hW⟩ : ∃ W0, W0 = (w.alloc (.cells #[.bool spf, .int .i64 uf, .slice adf af.length caf, .slice bdf bf.length cbf] 24)).alloc (.cells #[.int .i64 pS, .int .i64 pE] 26) := ⟨_, rfl⟩
  have K00 := Lib.hid (show Kp w W0 by rw [hW]; exact (Kp.alloc _ _).trans (Kp.alloc _ _))
  have HB := Lib.hid (fun w1 (k : Kp W0 w1) => show w1.cell? ⟨w.heap.size, 0, none⟩ = some (.bool spf) ∧ w1.cell? ⟨w.heap.size, 1, none⟩ = some (.int .i64 uf) ∧ w1.cell? ⟨w.heap.size, 2, none⟩ = some (.slice adf af.length caf) ∧ w1.cell? ⟨w.heap.size, 3, none⟩ = some (.slice bdf bf.length cbf) ∧ w1.cell? ⟨w.heap.size + 1, 0, none⟩ = some (.int .i64 pS) ∧ w1.cell? ⟨w.heap.size + 1, 1, none⟩ = some (.int .i64 pE) from ⟨cell_up k (show W0.cell? ⟨w.heap.size, 0, none⟩ = some (.bool spf) by rw [hW]; simp), cell_up k (show W0.cell? ⟨w.heap.size, 1, none⟩ = some (.int .i64 uf) by rw [hW]; simp), cell_up k (show W0.cell? ⟨w.heap.size, 2, none⟩ = some (.slice adf af.length caf) by rw [hW]; simp), cell_up k (show W0.cell? ⟨w.heap.size, 3, none⟩ = some (.slice bdf bf.length cbf) by rw [hW]; simp), cell_up k (show W0.cell? ⟨w.heap.size + 1, 0, none⟩ = some (.int .i64 pS) by rw [hW]; simp), cell_up k (show W0.cell? ⟨w.heap.size + 1, 1, none⟩ = some (.int .i64 pE) by rw [hW]; simp)⟩)
  obtain ⟨c0, c1, c2, c3, c4, c5⟩ := HB.out W0 (Kp.refl _)
  have K0 := Lib.hid (Kp.refl W0)
  have HW := Lib.hid hW
  clear hW
  have AW := Lib.hid (fun w1 (kk : Kp W0 w1) => awake14 w1 (T.kp (K00.out.trans kk)))
  have FW := Lib.hid (fun w1 (kk : Kp W0 w1) => RFW.out w1 (K00.out.trans kk))
  have C1 := Lib.hid (fun w1 (kk : Kp W0 w1) => Q1.out w1 (K00.out.trans kk))
  have C2 := Lib.hid (fun w1 (kk : Kp W0 w1) => Q2.out w1 (K00.out.trans kk))
  have C3 := Lib.hid (fun w1 (kk : Kp W0 w1) => Q3.out w1 (K00.out.trans kk))
  have C4 := Lib.hid (fun w1 (kk : Kp W0 w1) => Q4.out w1 (K00.out.trans kk))
  have C5 := Lib.hid (fun w1 (kk : Kp W0 w1) => Q5.out w1 (K00.out.trans kk))
  have C6 := Lib.hid (fun w1 (kk : Kp W0 w1) => Q6.out w1 (K00.out.trans kk))
  have C7 := Lib.hid (fun w1 (kk : Kp W0 w1) => Q7.out w1 (K00.out.trans kk))
  have C8 := Lib.hid (fun w1 (kk : Kp W0 w1) => Q8.out w1 (K00.out.trans kk))
  have C9 := Lib.hid (fun w1 (kk : Kp W0 w1) => Q9.out w1 (K00.out.trans kk))
  have C10 := Lib.hid (fun w1 (kk : Kp W0 w1) => Q10.out w1 (K00.out.trans kk))
  have C11 := Lib.hid (fun w1 (kk : Kp W0 w1) => Q11.out w1 (K00.out.trans kk))
  have C12 := Lib.hid (fun w1 (kk : Kp W0 w1) => Q12.out w1 (K00.out.trans kk))
  have C13 := Lib.hid (fun w1 (kk : Kp W0 w1) => Q13.out w1 (K00.out.trans kk))
  have C14 := Lib.hid (fun w1 (kk : Kp W0 w1) => Q14.out w1 (K00.out.trans kk))
  have C15 := Lib.hid (fun w1 (kk : Kp W0 w1) => Q15.out w1 (K00.out.trans kk))
  have C16 := Lib.hid (fun w1 (kk : Kp W0 w1) => Q16.out w1 (K00.out.trans kk))
  clear raf rbf T RFW hf Q1 Q2 Q3 Q4 Q5 Q6 Q7 Q8 Q9 Q10 Q11 Q12 Q13 Q14 Q15 Q16
  go_enter Tryz.func3, Tryz.ntmps3
  go_wp2_with fail
  rw [← HW.out]
  refine (AW.out _ (by first | with_reducible exact K0.out | with_reducible exact K0.out.trans (Kp.alloc _ _) | with_reducible exact (K0.out.trans (Kp.alloc _ _)).trans (Kp.alloc _ _) | with_reducible exact ((K0.out.trans (Kp.alloc _ _)).trans (Kp.alloc _ _)).trans (Kp.alloc _ _) | with_reducible exact K0.out.trans (Kp.drew _) | with_reducible exact K0.out.trans (Kp.drewN _ _))).mono ?_
  rintro e w1 ⟨rfl, kk⟩
  have K1 := Lib.hid ((show Kp W0 _ from (by first | with_reducible exact K0.out | with_reducible exact K0.out.trans (Kp.alloc _ _) | with_reducible exact (K0.out.trans (Kp.alloc _ _)).trans (Kp.alloc _ _) | with_reducible exact ((K0.out.trans (Kp.alloc _ _)).trans (Kp.alloc _ _)).trans (Kp.alloc _ _) | with_reducible exact K0.out.trans (Kp.drew _) | with_reducible exact K0.out.trans (Kp.drewN _ _))).trans kk)
  clear kk
  clear c0 c1 c2 c3 c4 c5
  obtain ⟨c0, c1, c2, c3, c4, c5⟩ := HB.out w1 K1.out
  go_wp2_with fail
  refine (FW.out _ (by first | with_reducible exact K1.out | with_reducible exact K1.out.trans (Kp.alloc _ _) | with_reducible exact (K1.out.trans (Kp.alloc _ _)).trans (Kp.alloc _ _) | with_reducible exact ((K1.out.trans (Kp.alloc _ _)).trans (Kp.alloc _ _)).trans (Kp.alloc _ _) | with_reducible exact K1.out.trans (Kp.drew _) | with_reducible exact K1.out.trans (Kp.drewN _ _))).mono ?_
  rintro e w2 ⟨rfl, kk⟩
  have K2 := Lib.hid ((show Kp W0 _ from (by first | with_reducible exact K1.out | with_reducible exact K1.out.trans (Kp.alloc _ _) | with_reducible exact (K1.out.trans (Kp.alloc _ _)).trans (Kp.alloc _ _) | with_reducible exact ((K1.out.trans (Kp.alloc _ _)).trans (Kp.alloc _ _)).trans (Kp.alloc _ _) | with_reducible exact K1.out.trans (Kp.drew _) | with_reducible exact K1.out.trans (Kp.drewN _ _))).trans kk)
  clear kk
  clear c0 c1 c2 c3 c4 c5
  obtain ⟨c0, c1, c2, c3, c4, c5⟩ := HB.out w2 K2.out
  go_wp2_with fail
  refine (C1.out _ (by first | with_reducible exact K2.out | with_reducible exact K2.out.trans (Kp.alloc _ _) | with_reducible exact (K2.out.trans (Kp.alloc _ _)).trans (Kp.alloc _ _) | with_reducible exact ((K2.out.trans (Kp.alloc _ _)).trans (Kp.alloc _ _)).trans (Kp.alloc _ _) | with_reducible exact K2.out.trans (Kp.drew _) | with_reducible exact K2.out.trans (Kp.drewN _ _))).mono ?_
  rintro e w3 ⟨v1, rfl, r1, kk⟩
  have K3 := Lib.hid ((show Kp W0 _ from (by first | with_reducible exact K2.out | with_reducible exact K2.out.trans (Kp.alloc _ _) | with_reducible exact (K2.out.trans (Kp.alloc _ _)).trans (Kp.alloc _ _) | with_reducible exact ((K2.out.trans (Kp.alloc _ _)).trans (Kp.alloc _ _)).trans (Kp.alloc _ _) | with_reducible exact K2.out.trans (Kp.drew _) | with_reducible exact K2.out.trans (Kp.drewN _ _))).trans kk)
  have RR1 := Lib.hid r1
  obtain ⟨x1, q1, rfl⟩ := r1.slice
  clear r1
  clear kk
  clear c0 c1 c2 c3 c4 c5
  obtain ⟨c0, c1, c2, c3, c4, c5⟩ := HB.out w3 K3.out
  have G3_3 := Lib.hid (Kp.refl w3)
  go_wp2_with fail
  refine (C2.out _ (by first | with_reducible exact K3.out | with_reducible exact K3.out.trans (Kp.alloc _ _) | with_reducible exact (K3.out.trans (Kp.alloc _ _)).trans (Kp.alloc _ _) | with_reducible exact ((K3.out.trans (Kp.alloc _ _)).trans (Kp.alloc _ _)).trans (Kp.alloc _ _) | with_reducible exact K3.out.trans (Kp.drew _) | with_reducible exact K3.out.trans (Kp.drewN _ _))).mono ?_
  rintro e w4 ⟨v2, rfl, r2, kk⟩
  have K4 := Lib.hid ((show Kp W0 _ from (by first | with_reducible exact K3.out | with_reducible exact K3.out.trans (Kp.alloc _ _) | with_reducible exact (K3.out.trans (Kp.alloc _ _)).trans (Kp.alloc _ _) | with_reducible exact ((K3.out.trans (Kp.alloc _ _)).trans (Kp.alloc _ _)).trans (Kp.alloc _ _) | with_reducible exact K3.out.trans (Kp.drew _) | with_reducible exact K3.out.trans (Kp.drewN _ _))).trans kk)
  have G3_4 := Lib.hid (G3_3.out.trans ((show Kp w3 _ from (by first | with_reducible exact Kp.refl _ | with_reducible exact Kp.alloc _ _ | with_reducible exact (Kp.alloc _ _).trans (Kp.alloc _ _) | with_reducible exact ((Kp.alloc _ _).trans (Kp.alloc _ _)).trans (Kp.alloc _ _) | with_reducible exact Kp.drew _ | with_reducible exact Kp.drewN _ _)).trans kk))
  have RR2 := Lib.hid r2
  obtain ⟨x2, q2, rfl⟩ := r2.slice
  clear r2
  clear kk
  clear c0 c1 c2 c3 c4 c5
  obtain ⟨c0, c1, c2, c3, c4, c5⟩ := HB.out w4 K4.out
  have G4_4 := Lib.hid (Kp.refl w4)
  go_wp2_with fail
  refine (C3.out _ (by first | with_reducible exact K4.out | with_reducible exact K4.out.trans (Kp.alloc _ _) | with_reducible exact (K4.out.trans (Kp.alloc _ _)).trans (Kp.alloc _ _) | with_reducible exact ((K4.out.trans (Kp.alloc _ _)).trans (Kp.alloc _ _)).trans (Kp.alloc _ _) | with_reducible exact K4.out.trans (Kp.drew _) | with_reducible exact K4.out.trans (Kp.drewN _ _))).mono ?_
  rintro e w5 ⟨v3, rfl, r3, kk⟩
  have K5 := Lib.hid ((show Kp W0 _ from (by first | with_reducible exact K4.out | with_reducible exact K4.out.trans (Kp.alloc _ _) | with_reducible exact (K4.out.trans (Kp.alloc _ _)).trans (Kp.alloc _ _) | with_reducible exact ((K4.out.trans (Kp.alloc _ _)).trans (Kp.alloc _ _)).trans (Kp.alloc _ _) | with_reducible exact K4.out.trans (Kp.drew _) | with_reducible exact K4.out.trans (Kp.drewN _ _))).trans kk)
  have G3_5 := Lib.hid (G3_4.out.trans ((show Kp w4 _ from (by first | with_reducible exact Kp.refl _ | with_reducible exact Kp.alloc _ _ | with_reducible exact (Kp.alloc _ _).trans (Kp.alloc _ _) | with_reducible exact ((Kp.alloc _ _).trans (Kp.alloc _ _)).trans (Kp.alloc _ _) | with_reducible exact Kp.drew _ | with_reducible exact Kp.drewN _ _)).trans kk))
  have G4_5 := Lib.hid (G4_4.out.trans ((show Kp w4 _ from (by first | with_reducible exact Kp.refl _ | with_reducible exact Kp.alloc _ _ | with_reducible exact (Kp.alloc _ _).trans (Kp.alloc _ _) | with_reducible exact ((Kp.alloc _ _).trans (Kp.alloc _ _)).trans (Kp.alloc _ _) | with_reducible exact Kp.drew _ | with_reducible exact Kp.drewN _ _)).trans kk))
  have RR3 := Lib.hid r3
  obtain ⟨x3, q3, rfl⟩ := r3.slice
  clear r3
  clear kk
  clear c0 c1 c2 c3 c4 c5
  obtain ⟨c0, c1, c2, c3, c4, c5⟩ := HB.out w5 K5.out
  have G5_5 := Lib.hid (Kp.refl w5)
  go_wp2_with fail
  refine (C4.out _ (by first | with_reducible exact K5.out | with_reducible exact K5.out.trans (Kp.alloc _ _) | with_reducible exact (K5.out.trans (Kp.alloc _ _)).trans (Kp.alloc _ _) | with_reducible exact ((K5.out.trans (Kp.alloc _ _)).trans (Kp.alloc _ _)).trans (Kp.alloc _ _) | with_reducible exact K5.out.trans (Kp.drew _) | with_reducible exact K5.out.trans (Kp.drewN _ _))).mono ?_
  rintro e w6 ⟨v4, rfl, r4, kk⟩
  have K6 := Lib.hid ((show Kp W0 _ from (by first | with_reducible exact K5.out | with_reducible exact K5.out.trans (Kp.alloc _ _) | with_reducible exact (K5.out.trans (Kp.alloc _ _)).trans (Kp.alloc _ _) | with_reducible exact ((K5.out.trans (Kp.alloc _ _)).trans (Kp.alloc _ _)).trans (Kp.alloc _ _) | with_reducible exact K5.out.trans (Kp.drew _) | with_reducible exact K5.out.trans (Kp.drewN _ _))).trans kk)
  have G3_6 := Lib.hid (G3_5.out.trans ((show Kp w5 _ from (by first | with_reducible exact Kp.refl _ | with_reducible exact Kp.alloc _ _ | with_reducible exact (Kp.alloc _ _).trans (Kp.alloc _ _) | with_reducible exact ((Kp.alloc _ _).trans (Kp.alloc _ _)).trans (Kp.alloc _ _) | with_reducible exact Kp.drew _ | with_reducible exact Kp.drewN _ _)).trans kk))
  have G4_6 := Lib.hid (G4_5.out.trans ((show Kp w5 _ from (by first | with_reducible exact Kp.refl _ | with_reducible exact Kp.alloc _ _ | with_reducible exact (Kp.alloc _ _).trans (Kp.alloc _ _) | with_reducible exact ((Kp.alloc _ _).trans (Kp.alloc _ _)).trans (Kp.alloc _ _) | with_reducible exact Kp.drew _ | with_reducible exact Kp.drewN _ _)).trans kk))
  have G5_6 := Lib.hid (G5_5.out.trans ((show Kp w5 _ from (by first | with_reducible exact Kp.refl _ | with_reducible exact Kp.alloc _ _ | with_reducible exact (Kp.alloc _ _).trans (Kp.alloc _ _) | with_reducible exact ((Kp.alloc _ _).trans (Kp.alloc _ _)).trans (Kp.alloc _ _) | with_reducible exact Kp.drew _ | with_reducible exact Kp.drewN _ _)).trans kk))
  have RR4 := Lib.hid r4
  obtain ⟨x4, q4, rfl⟩ := r4.slice
  clear r4
  clear kk
  clear c0 c1 c2 c3 c4 c5
  obtain ⟨c0, c1, c2, c3, c4, c5⟩ := HB.out w6 K6.out
  have G6_6 := Lib.hid (Kp.refl w6)
  have KS := Lib.hid (fun w' (kq : Kp w6 w') => show w'.cell? ⟨w.heap.size, 0, none⟩ = some (.bool spf) ∧ w'.cell? ⟨w.heap.size, 1, none⟩ = some (.int .i64 uf) ∧ w'.cell? ⟨w.heap.size, 2, none⟩ = some (.slice adf af.length caf) ∧ w'.cell? ⟨w.heap.size, 3, none⟩ = some (.slice bdf bf.length cbf) ∧ w'.cell? ⟨w.heap.size + 1, 0, none⟩ = some (.int .i64 pS) ∧ w'.cell? ⟨w.heap.size + 1, 1, none⟩ = some (.int .i64 pE) ∧ Kp w6 w' from ⟨(HB.out w' (K6.out.trans kq)).1, (HB.out w' (K6.out.trans kq)).2.1, (HB.out w' (K6.out.trans kq)).2.2.1, (HB.out w' (K6.out.trans kq)).2.2.2.1, (HB.out w' (K6.out.trans kq)).2.2.2.2.1, (HB.out w' (K6.out.trans kq)).2.2.2.2.2, kq⟩)
  go_wp2_with fail
  refine wp_region_held_drew (S := fun w' => w'.cell? ⟨w.heap.size, 0, none⟩ = some (.bool spf) ∧ w'.cell? ⟨w.heap.size, 1, none⟩ = some (.int .i64 uf) ∧ w'.cell? ⟨w.heap.size, 2, none⟩ = some (.slice adf af.length caf) ∧ w'.cell? ⟨w.heap.size, 3, none⟩ = some (.slice bdf bf.length cbf) ∧ w'.cell? ⟨w.heap.size + 1, 0, none⟩ = some (.int .i64 pS) ∧ w'.cell? ⟨w.heap.size + 1, 1, none⟩ = some (.int .i64 pE) ∧ Kp w6 w') (by kernel_rfl) ?_ (fun hHeld0 => ?_)
  · (try dsimp only); exact KS.out _ (by first | assumption | exact Kp.drew _)
  refine tkW (v := ?_) 0 iA0 rfl (by kernel_rfl) (by kernel_rfl) (by kernel_rfl) (fun _ _ _ h => h) (by rfl) ?_ (by assumption) ?_
  rotate_left
  · intro w hSw; (try dsimp only at hSw); go_simp; (try with_reducible rfl)
  (try simp only [Act.put, iA0, List.setIfInBounds_toArray, List.set_cons_zero, List.set_cons_succ])
  refine tkW (v := ?_) 1 iA1 rfl (by kernel_rfl) (by kernel_rfl) (by kernel_rfl) (fun _ _ _ h => h) (by rfl) ?_ (by assumption) ?_
  rotate_left
  · intro w hSw; (try dsimp only at hSw); go_simp; (try with_reducible rfl)
  (try simp only [Act.put, iA1, List.setIfInBounds_toArray, List.set_cons_zero, List.set_cons_succ])
  refine tkW (v := ?_) 2 iA2 rfl (by kernel_rfl) (by kernel_rfl) (by kernel_rfl) (fun _ _ _ h => h) (by rfl) ?_ (by assumption) ?_
  rotate_left
  · intro w hSw; (try dsimp only at hSw); go_simp; (try with_reducible rfl)
  (try simp only [Act.put, iA2, List.setIfInBounds_toArray, List.set_cons_zero, List.set_cons_succ])
  refine tkW (v := ?_) 3 iA3 rfl (by kernel_rfl) (by kernel_rfl) (by kernel_rfl) (fun _ _ _ h => h) (by rfl) ?_ (by assumption) ?_
  rotate_left
  · intro w hSw; (try dsimp only at hSw); go_simp; (try with_reducible rfl)
  (try simp only [Act.put, iA3, List.setIfInBounds_toArray, List.set_cons_zero, List.set_cons_succ])
  refine tkW (v := ?_) 4 iA4 rfl (by kernel_rfl) (by kernel_rfl) (by kernel_rfl) (fun _ _ _ h => h) (by rfl) ?_ (by assumption) ?_
  rotate_left
  · intro w hSw; (try dsimp only at hSw); go_simp; (try with_reducible rfl)
  (try simp only [Act.put, iA4, List.setIfInBounds_toArray, List.set_cons_zero, List.set_cons_succ])
  refine tkW (v := ?_) 5 iA5 rfl (by kernel_rfl) (by kernel_rfl) (by kernel_rfl) (fun _ _ _ h => h) (by rfl) ?_ (by assumption) ?_
  rotate_left
  · intro w hSw; (try dsimp only at hSw); go_simp; (try with_reducible rfl)
  (try simp only [Act.put, iA5, List.setIfInBounds_toArray, List.set_cons_zero, List.set_cons_succ])
  refine tkW (v := ?_) 6 iA6 rfl (by kernel_rfl) (by kernel_rfl) (by kernel_rfl) (fun _ _ _ h => h) (by rfl) ?_ (by assumption) ?_
  rotate_left
  · intro w hSw; (try dsimp only at hSw); go_simp; (try with_reducible rfl)
  (try simp only [Act.put, iA6, List.setIfInBounds_toArray, List.set_cons_zero, List.set_cons_succ])
  refine tkW (v := ?_) 7 iA7 rfl (by kernel_rfl) (by kernel_rfl) (by kernel_rfl) (fun _ _ _ h => h) (by rfl) ?_ (by assumption) ?_
  rotate_left
  · intro w hSw; (try dsimp only at hSw); go_simp; (try with_reducible rfl)
  (try simp only [Act.put, iA7, List.setIfInBounds_toArray, List.set_cons_zero, List.set_cons_succ])
  refine tkW (v := ?_) 8 iA8 rfl (by kernel_rfl) (by kernel_rfl) (by kernel_rfl) (fun _ _ _ h => h) (by rfl) ?_ (by assumption) ?_
  rotate_left
  · intro w hSw; (try dsimp only at hSw); go_simp; (try with_reducible rfl)
  (try simp only [Act.put, iA8, List.setIfInBounds_toArray, List.set_cons_zero, List.set_cons_succ])
  refine tkW (v := ?_) 9 iA9 rfl (by kernel_rfl) (by kernel_rfl) (by kernel_rfl) (fun _ _ _ h => h) (by rfl) ?_ (by assumption) ?_
  rotate_left
  · intro w hSw; (try dsimp only at hSw); go_simp; (try with_reducible rfl)
  (try simp only [Act.put, iA9, List.setIfInBounds_toArray, List.set_cons_zero, List.set_cons_succ])
  refine tkW (v := ?_) 10 iA10 rfl (by kernel_rfl) (by kernel_rfl) (by kernel_rfl) (fun _ _ _ h => h) (by rfl) ?_ (by assumption) ?_
  rotate_left
  · intro w hSw; (try dsimp only at hSw); go_simp; (try with_reducible rfl)
  (try simp only [Act.put, iA10, List.setIfInBounds_toArray, List.set_cons_zero, List.set_cons_succ])
  refine tkE 11 iA11 rfl (by kernel_rfl) (fun K hK => ?_)
  go_simp
  (refine (S1.out _ _ _ (RR1.out.kp (G3_6.out.trans (by first | assumption | exact Kp.drew _))) (RR2.out.kp (G4_6.out.trans (by first | assumption | exact Kp.drew _)))).mono ?_; rintro e w' ⟨rfl, k1⟩; have k2 := Kp.trans (show Kp w6 _ from (by first | assumption | exact Kp.drew _)) k1; clear k1)
  (try go_wp2_with fail)
  refine hK.out _ _ ?_ (fun hHeld1 => ?_)
  · (try dsimp only); exact KS.out _ (by first | assumption | exact Kp.drew _)
  clear hK K hHeld0
  (try simp only [Act.put, iA11, List.setIfInBounds_toArray, List.set_cons_zero, List.set_cons_succ])
  refine tkW (v := ?_) 12 iA12 rfl (by kernel_rfl) (by kernel_rfl) (by kernel_rfl) (fun _ _ _ h => h) (by rfl) ?_ (by assumption) ?_
  rotate_left
  · intro w hSw; (try dsimp only at hSw); go_simp; (try with_reducible rfl)
  (try simp only [Act.put, iA12, List.setIfInBounds_toArray, List.set_cons_zero, List.set_cons_succ])
  refine tkW (v := ?_) 13 iA13 rfl (by kernel_rfl) (by kernel_rfl) (by kernel_rfl) (fun _ _ _ h => h) (by rfl) ?_ (by assumption) ?_
  rotate_left
  · intro w hSw; (try dsimp only at hSw); go_simp; (try with_reducible rfl)
  (try simp only [Act.put, iA13, List.setIfInBounds_toArray, List.set_cons_zero, List.set_cons_succ])
  refine tkW (v := ?_) 14 iA14 rfl (by kernel_rfl) (by kernel_rfl) (by kernel_rfl) (fun _ _ _ h => h) (by rfl) ?_ (by assumption) ?_
  rotate_left
  · intro w hSw; (try dsimp only at hSw); go_simp; (try with_reducible rfl)
  (try simp only [Act.put, iA14, List.setIfInBounds_toArray, List.set_cons_zero, List.set_cons_succ])
  refine tkW (v := ?_) 15 iA15 rfl (by kernel_rfl) (by kernel_rfl) (by kernel_rfl) (fun _ _ _ h => h) (by rfl) ?_ (by assumption) ?_
  rotate_left
  · intro w hSw; (try dsimp only at hSw); go_simp; (try with_reducible rfl)
  (try simp only [Act.put, iA15, List.setIfInBounds_toArray, List.set_cons_zero, List.set_cons_succ])
  refine tkW (v := ?_) 16 iA16 rfl (by kernel_rfl) (by kernel_rfl) (by kernel_rfl) (fun _ _ _ h => h) (by rfl) ?_ (by assumption) ?_
  rotate_left
  · intro w hSw; (try dsimp only at hSw); go_simp; (try with_reducible rfl)
  (try simp only [Act.put, iA16, List.setIfInBounds_toArray, List.set_cons_zero, List.set_cons_succ])
  refine tkE 17 iA17 rfl (by kernel_rfl) (fun K hK => ?_)
  go_simp
  (refine (S2.out _ _ _ (RR3.out.kp (G5_6.out.trans (by first | assumption | exact Kp.drew _))) (RR4.out.kp (G6_6.out.trans (by first | assumption | exact Kp.drew _)))).mono ?_; rintro e w' ⟨rfl, k1⟩; have k2 := Kp.trans (show Kp w6 _ from (by first | assumption | exact Kp.drew _)) k1; clear k1)
  (try go_wp2_with fail)
  refine hK.out _ _ ?_ (fun hHeld2 => ?_)
  · (try dsimp only); exact KS.out _ (by first | assumption | exact Kp.drew _)
  clear hK K hHeld1
  (try simp only [Act.put, iA17, List.setIfInBounds_toArray, List.set_cons_zero, List.set_cons_succ])
  refine tkW (v := ?_) 18 iA18 rfl (by kernel_rfl) (by kernel_rfl) (by kernel_rfl) (fun _ _ _ h => h) (by rfl) ?_ (by assumption) ?_
  rotate_left
  · intro w hSw; (try dsimp only at hSw); go_simp; (try with_reducible rfl)
  (try simp only [Act.put, iA18, List.setIfInBounds_toArray, List.set_cons_zero, List.set_cons_succ])
  refine tkW (v := ?_) 19 iA19 rfl (by kernel_rfl) (by kernel_rfl) (by kernel_rfl) (fun _ _ _ h => h) (by rfl) ?_ (by assumption) ?_
  rotate_left
  · intro w hSw; (try dsimp only at hSw); go_simp; (try with_reducible rfl)
  (try simp only [Act.put, iA19, List.setIfInBounds_toArray, List.set_cons_zero, List.set_cons_succ])
  refine tkW (v := ?_) 20 iA20 rfl (by kernel_rfl) (by kernel_rfl) (by kernel_rfl) (fun _ _ _ h => h) (by rfl) ?_ (by assumption) ?_
  rotate_left
  · intro w hSw; (try dsimp only at hSw); go_simp; (try with_reducible rfl)
  (try simp only [Act.put, iA20, List.setIfInBounds_toArray, List.set_cons_zero, List.set_cons_succ])
  refine tkW (v := ?_) 21 iA21 rfl (by kernel_rfl) (by kernel_rfl) (by kernel_rfl) (fun _ _ _ h => h) (by rfl) ?_ (by assumption) ?_
  rotate_left
  · intro w hSw; (try dsimp only at hSw); go_simp; (try with_reducible rfl)
  (try simp only [Act.put, iA21, List.setIfInBounds_toArray, List.set_cons_zero, List.set_cons_succ])
  refine tkW (v := ?_) 23 iA23 rfl (by kernel_rfl) (by kernel_rfl) (by kernel_rfl) (fun _ _ _ h => h) (by rfl) ?_ (by assumption) ?_
  rotate_left
  · intro w hSw; (try dsimp only at hSw); go_simp; (try with_reducible rfl)
  (try simp only [Act.put, iA23, List.setIfInBounds_toArray, List.set_cons_zero, List.set_cons_succ])
  refine tkE 22 iA22 rfl (by kernel_rfl) (fun K hK => ?_)
  go_simp
  (refine (C5.out _ (K6.out.trans (by first | assumption | exact Kp.drew _))).mono ?_; rintro e w' ⟨rfl, k1⟩; have k2 := Kp.trans (show Kp w6 _ from (by first | assumption | exact Kp.drew _)) k1; clear k1)
  (try go_wp2_with fail)
  refine hK.out _ _ ?_ (fun hHeld3 => ?_)
  · (try dsimp only); exact KS.out _ (by first | assumption | exact Kp.drew _)
  clear hK K hHeld2
  (try simp only [Act.put, iA22, List.setIfInBounds_toArray, List.set_cons_zero, List.set_cons_succ])
  refine tkE 24 iA24 rfl (by kernel_rfl) (fun K hK => ?_)
  go_simp
  (refine (C6.out _ (K6.out.trans (by first | assumption | exact Kp.drew _))).mono ?_; rintro e w' ⟨rfl, k1⟩; have k2 := Kp.trans (show Kp w6 _ from (by first | assumption | exact Kp.drew _)) k1; clear k1)
  (try go_wp2_with fail)
  refine hK.out _ _ ?_ (fun hHeld4 => ?_)
  · (try dsimp only); exact KS.out _ (by first | assumption | exact Kp.drew _)
  clear hK K hHeld3
  (try simp only [Act.put, iA24, List.setIfInBounds_toArray, List.set_cons_zero, List.set_cons_succ])
  refine tkW (v := ?_) 25 iA25 rfl (by kernel_rfl) (by kernel_rfl) (by kernel_rfl) (fun _ _ _ h => h) (by rfl) ?_ (by assumption) ?_
  rotate_left
  · intro w hSw; (try dsimp only at hSw); go_simp; (try with_reducible rfl)
  (try simp only [Act.put, iA25, List.setIfInBounds_toArray, List.set_cons_zero, List.set_cons_succ])
  refine tkW (v := ?_) 26 iA26 rfl (by kernel_rfl) (by kernel_rfl) (by kernel_rfl) (fun _ _ _ h => h) (by rfl) ?_ (by assumption) ?_
  rotate_left
  · intro w hSw; (try dsimp only at hSw); go_simp; (try with_reducible rfl)
  (try simp only [Act.put, iA26, List.setIfInBounds_toArray, List.set_cons_zero, List.set_cons_succ])
  refine tkW (v := ?_) 27 iA27 rfl (by kernel_rfl) (by kernel_rfl) (by kernel_rfl) (fun _ _ _ h => h) (by rfl) ?_ (by assumption) ?_
  rotate_left
  · intro w hSw; (try dsimp only at hSw); go_simp; (try with_reducible rfl)
  (try simp only [Act.put, iA27, List.setIfInBounds_toArray, List.set_cons_zero, List.set_cons_succ])
  refine tkW (v := ?_) 28 iA28 rfl (by kernel_rfl) (by kernel_rfl) (by kernel_rfl) (fun _ _ _ h => h) (by rfl) ?_ (by assumption) ?_
  rotate_left
  · intro w hSw; (try dsimp only at hSw); go_simp; (try with_reducible rfl)
  (try simp only [Act.put, iA28, List.setIfInBounds_toArray, List.set_cons_zero, List.set_cons_succ])
  refine tkW (v := ?_) 30 iA30 rfl (by kernel_rfl) (by kernel_rfl) (by kernel_rfl) (fun _ _ _ h => h) (by rfl) ?_ (by assumption) ?_
  rotate_left
  · intro w hSw; (try dsimp only at hSw); go_simp; (try with_reducible rfl)
  (try simp only [Act.put, iA30, List.setIfInBounds_toArray, List.set_cons_zero, List.set_cons_succ])
  refine tkE 29 iA29 rfl (by kernel_rfl) (fun K hK => ?_)
  go_simp
  (refine (C7.out _ (K6.out.trans (by first | assumption | exact Kp.drew _))).mono ?_; rintro e w' ⟨rfl, k1⟩; have k2 := Kp.trans (show Kp w6 _ from (by first | assumption | exact Kp.drew _)) k1; clear k1)
  (try go_wp2_with fail)
  refine hK.out _ _ ?_ (fun hHeld5 => ?_)
  · (try dsimp only); exact KS.out _ (by first | assumption | exact Kp.drew _)
  clear hK K hHeld4
  (try simp only [Act.put, iA29, List.setIfInBounds_toArray, List.set_cons_zero, List.set_cons_succ])
  refine tkE 31 iA31 rfl (by kernel_rfl) (fun K hK => ?_)
  go_simp
  (refine (C8.out _ (K6.out.trans (by first | assumption | exact Kp.drew _))).mono ?_; rintro e w' ⟨rfl, k1⟩; have k2 := Kp.trans (show Kp w6 _ from (by first | assumption | exact Kp.drew _)) k1; clear k1)
  (try go_wp2_with fail)
  refine hK.out _ _ ?_ (fun hHeld6 => ?_)
  · (try dsimp only); exact KS.out _ (by first | assumption | exact Kp.drew _)
  clear hK K hHeld5
  (try simp only [Act.put, iA31, List.setIfInBounds_toArray, List.set_cons_zero, List.set_cons_succ])
  refine tkW (v := ?_) 32 iA32 rfl (by kernel_rfl) (by kernel_rfl) (by kernel_rfl) (fun _ _ _ h => h) (by rfl) ?_ (by assumption) ?_
  rotate_left
  · intro w hSw; (try dsimp only at hSw); go_simp; (try with_reducible rfl)
  (try simp only [Act.put, iA32, List.setIfInBounds_toArray, List.set_cons_zero, List.set_cons_succ])
  refine tkW (v := ?_) 33 iA33 rfl (by kernel_rfl) (by kernel_rfl) (by kernel_rfl) (fun _ _ _ h => h) (by rfl) ?_ (by assumption) ?_
  rotate_left
  · intro w hSw; (try dsimp only at hSw); go_simp; (try with_reducible rfl)
  (try simp only [Act.put, iA33, List.setIfInBounds_toArray, List.set_cons_zero, List.set_cons_succ])
  refine wpAnyH_done (by kernel_rfl) ?_ _
  obtain ⟨X, hX⟩ : ∃ x : World, x = w' := ⟨_, rfl⟩
  subst hX
  have KX := Lib.hid (K6.out.trans (by first | assumption | exact Kp.drew _))
  have KS := Lib.hid (fun w' (kq : Kp X w') => show w'.cell? ⟨w.heap.size, 0, none⟩ = some (.bool spf) ∧ w'.cell? ⟨w.heap.size, 1, none⟩ = some (.int .i64 uf) ∧ w'.cell? ⟨w.heap.size, 2, none⟩ = some (.slice adf af.length caf) ∧ w'.cell? ⟨w.heap.size, 3, none⟩ = some (.slice bdf bf.length cbf) ∧ w'.cell? ⟨w.heap.size + 1, 0, none⟩ = some (.int .i64 pS) ∧ w'.cell? ⟨w.heap.size + 1, 1, none⟩ = some (.int .i64 pE) ∧ Kp X w' from ⟨(HB.out w' (KX.out.trans kq)).1, (HB.out w' (KX.out.trans kq)).2.1, (HB.out w' (KX.out.trans kq)).2.2.1, (HB.out w' (KX.out.trans kq)).2.2.2.1, (HB.out w' (KX.out.trans kq)).2.2.2.2.1, (HB.out w' (KX.out.trans kq)).2.2.2.2.2, kq⟩)
  go_wp2_with fail
  refine wp_region_held_drew (S := fun w' => w'.cell? ⟨w.heap.size, 0, none⟩ = some (.bool spf) ∧ w'.cell? ⟨w.heap.size, 1, none⟩ = some (.int .i64 uf) ∧ w'.cell? ⟨w.heap.size, 2, none⟩ = some (.slice adf af.length caf) ∧ w'.cell? ⟨w.heap.size, 3, none⟩ = some (.slice bdf bf.length cbf) ∧ w'.cell? ⟨w.heap.size + 1, 0, none⟩ = some (.int .i64 pS) ∧ w'.cell? ⟨w.heap.size + 1, 1, none⟩ = some (.int .i64 pE) ∧ Kp X w') (by kernel_rfl) ?_ (fun hHeld0 => ?_)
  · (try dsimp only); exact KS.out _ (by first | assumption | exact Kp.drew _)
  refine tkW (v := ?_) 0 iB0 rfl (by kernel_rfl) (by kernel_rfl) (by kernel_rfl) (fun _ _ _ h => h) (by rfl) ?_ (by assumption) ?_
  rotate_left
  · intro w hSw; (try dsimp only at hSw); go_simp; (try with_reducible rfl)
  (try simp only [Act.put, iB0, List.setIfInBounds_toArray, List.set_cons_zero, List.set_cons_succ])
  refine tkW (v := ?_) 1 iB1 rfl (by kernel_rfl) (by kernel_rfl) (by kernel_rfl) (fun _ _ _ h => h) (by rfl) ?_ (by assumption) ?_
  rotate_left
  · intro w hSw; (try dsimp only at hSw); go_simp; (try with_reducible rfl)
  (try simp only [Act.put, iB1, List.setIfInBounds_toArray, List.set_cons_zero, List.set_cons_succ])
  refine tkW (v := ?_) 2 iB2 rfl (by kernel_rfl) (by kernel_rfl) (by kernel_rfl) (fun _ _ _ h => h) (by rfl) ?_ (by assumption) ?_
  rotate_left
  · intro w hSw; (try dsimp only at hSw); go_simp; (try with_reducible rfl)
  (try simp only [Act.put, iB2, List.setIfInBounds_toArray, List.set_cons_zero, List.set_cons_succ])
  refine tkW (v := ?_) 3 iB3 rfl (by kernel_rfl) (by kernel_rfl) (by kernel_rfl) (fun _ _ _ h => h) (by rfl) ?_ (by assumption) ?_
  rotate_left
  · intro w hSw; (try dsimp only at hSw); go_simp; (try with_reducible rfl)
  (try simp only [Act.put, iB3, List.setIfInBounds_toArray, List.set_cons_zero, List.set_cons_succ])
  refine tkW (v := ?_) 5 iB5 rfl (by kernel_rfl) (by kernel_rfl) (by kernel_rfl) (fun _ _ _ h => h) (by rfl) ?_ (by assumption) ?_
  rotate_left
  · intro w hSw; (try dsimp only at hSw); go_simp; (try with_reducible rfl)
  (try simp only [Act.put, iB5, List.setIfInBounds_toArray, List.set_cons_zero, List.set_cons_succ])
  refine tkW (v := ?_) 6 iB6 rfl (by kernel_rfl) (by kernel_rfl) (by kernel_rfl) (fun _ _ _ h => h) (by rfl) ?_ (by assumption) ?_
  rotate_left
  · intro w hSw; (try dsimp only at hSw); go_simp; (try with_reducible rfl)
  (try simp only [Act.put, iB6, List.setIfInBounds_toArray, List.set_cons_zero, List.set_cons_succ])
  refine tkE 4 iB4 rfl (by kernel_rfl) (fun K hK => ?_)
  go_simp
  (refine (C9.out _ (KX.out.trans (by first | assumption | exact Kp.drew _))).mono ?_; rintro e w' ⟨rfl, k1⟩; have k2 := Kp.trans (show Kp X _ from (by first | assumption | exact Kp.drew _)) k1; clear k1)
  (try go_wp2_with fail)
  refine hK.out _ _ ?_ (fun hHeld1 => ?_)
  · (try dsimp only); exact KS.out _ (by first | assumption | exact Kp.drew _)
  clear hK K hHeld0
  (try simp only [Act.put, iB4, List.setIfInBounds_toArray, List.set_cons_zero, List.set_cons_succ])
  refine tkE 7 iB7 rfl (by kernel_rfl) (fun K hK => ?_)
  go_simp
  (refine (C10.out _ (KX.out.trans (by first | assumption | exact Kp.drew _))).mono ?_; rintro e w' ⟨rfl, k1⟩; have k2 := Kp.trans (show Kp X _ from (by first | assumption | exact Kp.drew _)) k1; clear k1)
  (try go_wp2_with fail)
  refine hK.out _ _ ?_ (fun hHeld2 => ?_)
  · (try dsimp only); exact KS.out _ (by first | assumption | exact Kp.drew _)
  clear hK K hHeld1
  (try simp only [Act.put, iB7, List.setIfInBounds_toArray, List.set_cons_zero, List.set_cons_succ])
  refine tkW (v := ?_) 8 iB8 rfl (by kernel_rfl) (by kernel_rfl) (by kernel_rfl) (fun _ _ _ h => h) (by rfl) ?_ (by assumption) ?_
  rotate_left
  · intro w hSw; (try dsimp only at hSw); go_simp; (try with_reducible rfl)
  (try simp only [Act.put, iB8, List.setIfInBounds_toArray, List.set_cons_zero, List.set_cons_succ])
  refine tkW (v := ?_) 9 iB9 rfl (by kernel_rfl) (by kernel_rfl) (by kernel_rfl) (fun _ _ _ h => h) (by rfl) ?_ (by assumption) ?_
  rotate_left
  · intro w hSw; (try dsimp only at hSw); go_simp; (try with_reducible rfl)
  (try simp only [Act.put, iB9, List.setIfInBounds_toArray, List.set_cons_zero, List.set_cons_succ])
  refine tkW (v := ?_) 10 iB10 rfl (by kernel_rfl) (by kernel_rfl) (by kernel_rfl) (fun _ _ _ h => h) (by rfl) ?_ (by assumption) ?_
  rotate_left
  · intro w hSw; (try dsimp only at hSw); go_simp; (try with_reducible rfl)
  (try simp only [Act.put, iB10, List.setIfInBounds_toArray, List.set_cons_zero, List.set_cons_succ])
  refine tkW (v := ?_) 11 iB11 rfl (by kernel_rfl) (by kernel_rfl) (by kernel_rfl) (fun _ _ _ h => h) (by rfl) ?_ (by assumption) ?_
  rotate_left
  · intro w hSw; (try dsimp only at hSw); go_simp; (try with_reducible rfl)
  (try simp only [Act.put, iB11, List.setIfInBounds_toArray, List.set_cons_zero, List.set_cons_succ])
  refine tkW (v := ?_) 12 iB12 rfl (by kernel_rfl) (by kernel_rfl) (by kernel_rfl) (fun _ _ _ h => h) (by rfl) ?_ (by assumption) ?_
  rotate_left
  · intro w hSw; (try dsimp only at hSw); go_simp; (try with_reducible rfl)
  (try simp only [Act.put, iB12, List.setIfInBounds_toArray, List.set_cons_zero, List.set_cons_succ])
  refine tkW (v := ?_) 14 iB14 rfl (by kernel_rfl) (by kernel_rfl) (by kernel_rfl) (fun _ _ _ h => h) (by rfl) ?_ (by assumption) ?_
  rotate_left
  · intro w hSw; (try dsimp only at hSw); go_simp; (try with_reducible rfl)
  (try simp only [Act.put, iB14, List.setIfInBounds_toArray, List.set_cons_zero, List.set_cons_succ])
  refine tkW (v := ?_) 15 iB15 rfl (by kernel_rfl) (by kernel_rfl) (by kernel_rfl) (fun _ _ _ h => h) (by rfl) ?_ (by assumption) ?_
  rotate_left
  · intro w hSw; (try dsimp only at hSw); go_simp; (try with_reducible rfl)
  (try simp only [Act.put, iB15, List.setIfInBounds_toArray, List.set_cons_zero, List.set_cons_succ])
  refine tkE 13 iB13 rfl (by kernel_rfl) (fun K hK => ?_)
  go_simp
  (refine (C11.out _ (KX.out.trans (by first | assumption | exact Kp.drew _))).mono ?_; rintro e w' ⟨rfl, k1⟩; have k2 := Kp.trans (show Kp X _ from (by first | assumption | exact Kp.drew _)) k1; clear k1)
  (try go_wp2_with fail)
  refine hK.out _ _ ?_ (fun hHeld3 => ?_)
  · (try dsimp only); exact KS.out _ (by first | assumption | exact Kp.drew _)
  clear hK K hHeld2
  (try simp only [Act.put, iB13, List.setIfInBounds_toArray, List.set_cons_zero, List.set_cons_succ])
  refine tkE 16 iB16 rfl (by kernel_rfl) (fun K hK => ?_)
  go_simp
  (refine (C12.out _ (KX.out.trans (by first | assumption | exact Kp.drew _))).mono ?_; rintro e w' ⟨rfl, k1⟩; have k2 := Kp.trans (show Kp X _ from (by first | assumption | exact Kp.drew _)) k1; clear k1)
  (try go_wp2_with fail)
  refine hK.out _ _ ?_ (fun hHeld4 => ?_)
  · (try dsimp only); exact KS.out _ (by first | assumption | exact Kp.drew _)
  clear hK K hHeld3
  (try simp only [Act.put, iB16, List.setIfInBounds_toArray, List.set_cons_zero, List.set_cons_succ])
  refine tkW (v := ?_) 17 iB17 rfl (by kernel_rfl) (by kernel_rfl) (by kernel_rfl) (fun _ _ _ h => h) (by rfl) ?_ (by assumption) ?_
  rotate_left
  · intro w hSw; (try dsimp only at hSw); go_simp; (try with_reducible rfl)
  (try simp only [Act.put, iB17, List.setIfInBounds_toArray, List.set_cons_zero, List.set_cons_succ])
  refine tkW (v := ?_) 18 iB18 rfl (by kernel_rfl) (by kernel_rfl) (by kernel_rfl) (fun _ _ _ h => h) (by rfl) ?_ (by assumption) ?_
  rotate_left
  · intro w hSw; (try dsimp only at hSw); go_simp; (try with_reducible rfl)
  (try simp only [Act.put, iB18, List.setIfInBounds_toArray, List.set_cons_zero, List.set_cons_succ])
  refine tkW (v := ?_) 19 iB19 rfl (by kernel_rfl) (by kernel_rfl) (by kernel_rfl) (fun _ _ _ h => h) (by rfl) ?_ (by assumption) ?_
  rotate_left
  · intro w hSw; (try dsimp only at hSw); go_simp; (try with_reducible rfl)
  (try simp only [Act.put, iB19, List.setIfInBounds_toArray, List.set_cons_zero, List.set_cons_succ])
  refine tkW (v := ?_) 20 iB20 rfl (by kernel_rfl) (by kernel_rfl) (by kernel_rfl) (fun _ _ _ h => h) (by rfl) ?_ (by assumption) ?_
  rotate_left
  · intro w hSw; (try dsimp only at hSw); go_simp; (try with_reducible rfl)
  (try simp only [Act.put, iB20, List.setIfInBounds_toArray, List.set_cons_zero, List.set_cons_succ])
  refine tkW (v := ?_) 21 iB21 rfl (by kernel_rfl) (by kernel_rfl) (by kernel_rfl) (fun _ _ _ h => h) (by rfl) ?_ (by assumption) ?_
  rotate_left
  · intro w hSw; (try dsimp only at hSw); go_simp; (try with_reducible rfl)
  (try simp only [Act.put, iB21, List.setIfInBounds_toArray, List.set_cons_zero, List.set_cons_succ])
  refine tkW (v := ?_) 23 iB23 rfl (by kernel_rfl) (by kernel_rfl) (by kernel_rfl) (fun _ _ _ h => h) (by rfl) ?_ (by assumption) ?_
  rotate_left
  · intro w hSw; (try dsimp only at hSw); go_simp; (try with_reducible rfl)
  (try simp only [Act.put, iB23, List.setIfInBounds_toArray, List.set_cons_zero, List.set_cons_succ])
  refine tkW (v := ?_) 24 iB24 rfl (by kernel_rfl) (by kernel_rfl) (by kernel_rfl) (fun _ _ _ h => h) (by rfl) ?_ (by assumption) ?_
  rotate_left
  · intro w hSw; (try dsimp only at hSw); go_simp; (try with_reducible rfl)
  (try simp only [Act.put, iB24, List.setIfInBounds_toArray, List.set_cons_zero, List.set_cons_succ])
  refine tkE 22 iB22 rfl (by kernel_rfl) (fun K hK => ?_)
  go_simp
  (refine (C13.out _ (KX.out.trans (by first | assumption | exact Kp.drew _))).mono ?_; rintro e w8 ⟨v8, rfl, own8, k1⟩; have R8 := Lib.hid (runsAt_own own8); obtain ⟨x8, q8, rfl⟩ := own_slice own8; clear own8; have k2 := Kp.trans (show Kp X _ from (by first | assumption | exact Kp.drew _)) k1; clear k1)
  (try go_wp2_with fail)
  refine hK.out _ _ ?_ (fun hHeld5 => ?_)
  · (try dsimp only); exact KS.out _ (by first | assumption | exact Kp.drew _)
  clear hK K hHeld4
  (try simp only [Act.put, iB22, List.setIfInBounds_toArray, List.set_cons_zero, List.set_cons_succ])
  refine tkE 25 iB25 rfl (by kernel_rfl) (fun K hK => ?_)
  go_simp
  (refine (C14.out _ (KX.out.trans (by first | assumption | exact Kp.drew _))).mono ?_; rintro e w9 ⟨v9, rfl, r9, k1⟩; have R9 := Lib.hid r9; obtain ⟨x9, q9, rfl⟩ := r9.slice; have R8' := Lib.hid (R8.out.kp ((show Kp w8 _ from (by first | with_reducible exact Kp.refl _ | with_reducible exact Kp.alloc _ _ | with_reducible exact (Kp.alloc _ _).trans (Kp.alloc _ _) | with_reducible exact ((Kp.alloc _ _).trans (Kp.alloc _ _)).trans (Kp.alloc _ _) | with_reducible exact Kp.drew _ | with_reducible exact Kp.drewN _ _)).trans k1)); clear r9; have k2 := Kp.trans (show Kp X _ from (by first | assumption | exact Kp.drew _)) k1; clear k1)
  (try go_wp2_with fail)
  refine hK.out _ _ ?_ (fun hHeld6 => ?_)
  · (try dsimp only); exact KS.out _ (by first | assumption | exact Kp.drew _)
  clear hK K hHeld5
  (try simp only [Act.put, iB25, List.setIfInBounds_toArray, List.set_cons_zero, List.set_cons_succ])
  refine tkE 26 iB26 rfl (by kernel_rfl) (fun K hK => ?_)
  go_simp
  (refine (SP.out _ _ _ (R8'.out.kp (by first | with_reducible exact Kp.refl _ | with_reducible exact Kp.alloc _ _ | with_reducible exact (Kp.alloc _ _).trans (Kp.alloc _ _) | with_reducible exact ((Kp.alloc _ _).trans (Kp.alloc _ _)).trans (Kp.alloc _ _) | with_reducible exact Kp.drew _ | with_reducible exact Kp.drewN _ _)) (R9.out.kp (by first | with_reducible exact Kp.refl _ | with_reducible exact Kp.alloc _ _ | with_reducible exact (Kp.alloc _ _).trans (Kp.alloc _ _) | with_reducible exact ((Kp.alloc _ _).trans (Kp.alloc _ _)).trans (Kp.alloc _ _) | with_reducible exact Kp.drew _ | with_reducible exact Kp.drewN _ _))).mono ?_; rintro e w' ⟨rfl, k1⟩; have k2 := Kp.trans (show Kp X _ from (by first | assumption | exact Kp.drew _)) k1; clear k1)
  (try go_wp2_with fail)
  refine hK.out _ _ ?_ (fun hHeld7 => ?_)
  · (try dsimp only); exact KS.out _ (by first | assumption | exact Kp.drew _)
  clear hK K hHeld6
  (try simp only [Act.put, iB26, List.setIfInBounds_toArray, List.set_cons_zero, List.set_cons_succ])
  refine tkW (v := ?_) 27 iB27 rfl (by kernel_rfl) (by kernel_rfl) (by kernel_rfl) (fun _ _ _ h => h) (by rfl) ?_ (by assumption) ?_
  rotate_left
  · intro w hSw; (try dsimp only at hSw); go_simp; (try with_reducible rfl)
  (try simp only [Act.put, iB27, List.setIfInBounds_toArray, List.set_cons_zero, List.set_cons_succ])
  refine tkW (v := ?_) 28 iB28 rfl (by kernel_rfl) (by kernel_rfl) (by kernel_rfl) (fun _ _ _ h => h) (by rfl) ?_ (by assumption) ?_
  rotate_left
  · intro w hSw; (try dsimp only at hSw); go_simp; (try with_reducible rfl)
  (try simp only [Act.put, iB28, List.setIfInBounds_toArray, List.set_cons_zero, List.set_cons_succ])
  refine tkW (v := ?_) 29 iB29 rfl (by kernel_rfl) (by kernel_rfl) (by kernel_rfl) (fun _ _ _ h => h) (by rfl) ?_ (by assumption) ?_
  rotate_left
  · intro w hSw; (try dsimp only at hSw); go_simp; (try with_reducible rfl)
  (try simp only [Act.put, iB29, List.setIfInBounds_toArray, List.set_cons_zero, List.set_cons_succ])
  refine tkW (v := ?_) 31 iB31 rfl (by kernel_rfl) (by kernel_rfl) (by kernel_rfl) (fun _ _ _ h => h) (by rfl) ?_ (by assumption) ?_
  rotate_left
  · intro w hSw; (try dsimp only at hSw); go_simp; (try with_reducible rfl)
  (try simp only [Act.put, iB31, List.setIfInBounds_toArray, List.set_cons_zero, List.set_cons_succ])
  refine tkE 30 iB30 rfl (by kernel_rfl) (fun K hK => ?_)
  go_simp
  (refine (C15.out _ (KX.out.trans (by first | assumption | exact Kp.drew _))).mono ?_; rintro e w10 ⟨ta, tb, rfl, ok10, k1⟩; have O10 := Lib.hid ok10; obtain ⟨xa, qa, rfl⟩ := ok10.a.slice; obtain ⟨xb, qb, rfl⟩ := ok10.b.slice; clear ok10; have k2 := Kp.trans (show Kp X _ from (by first | assumption | exact Kp.drew _)) k1; clear k1)
  (try go_wp2_with fail)
  refine hK.out _ _ ?_ (fun hHeld8 => ?_)
  · (try dsimp only); exact KS.out _ (by first | assumption | exact Kp.drew _)
  clear hK K hHeld7
  (try simp only [Act.put, iB30, List.setIfInBounds_toArray, List.set_cons_zero, List.set_cons_succ])
  refine tkE 32 iB32 rfl (by kernel_rfl) (fun K hK => ?_)
  go_simp
  (refine (C16.out _ (KX.out.trans (by first | assumption | exact Kp.drew _))).mono ?_; rintro e w11 ⟨ua, ub, rfl, ok11, k1⟩; have O11 := Lib.hid ok11; obtain ⟨xc, qc, rfl⟩ := ok11.a.slice; obtain ⟨xd, qd, rfl⟩ := ok11.b.slice; have O10' := Lib.hid (O10.out.kp ((show Kp w10 _ from (by first | with_reducible exact Kp.refl _ | with_reducible exact Kp.alloc _ _ | with_reducible exact (Kp.alloc _ _).trans (Kp.alloc _ _) | with_reducible exact ((Kp.alloc _ _).trans (Kp.alloc _ _)).trans (Kp.alloc _ _) | with_reducible exact Kp.drew _ | with_reducible exact Kp.drewN _ _)).trans k1)); clear ok11; have k2 := Kp.trans (show Kp X _ from (by first | assumption | exact Kp.drew _)) k1; clear k1)
  (try go_wp2_with fail)
  refine hK.out _ _ ?_ (fun hHeld9 => ?_)
  · (try dsimp only); exact KS.out _ (by first | assumption | exact Kp.drew _)
  clear hK K hHeld8
  (try simp only [Act.put, iB32, List.setIfInBounds_toArray, List.set_cons_zero, List.set_cons_succ])
  refine tkE 33 iB33 rfl (by kernel_rfl) (fun K hK => ?_)
  go_simp
  (refine (SM.out _ _ _ _ _ (O10'.out.kp (by first | with_reducible exact Kp.refl _ | with_reducible exact Kp.alloc _ _ | with_reducible exact (Kp.alloc _ _).trans (Kp.alloc _ _) | with_reducible exact ((Kp.alloc _ _).trans (Kp.alloc _ _)).trans (Kp.alloc _ _) | with_reducible exact Kp.drew _ | with_reducible exact Kp.drewN _ _)) (O11.out.kp (by first | with_reducible exact Kp.refl _ | with_reducible exact Kp.alloc _ _ | with_reducible exact (Kp.alloc _ _).trans (Kp.alloc _ _) | with_reducible exact ((Kp.alloc _ _).trans (Kp.alloc _ _)).trans (Kp.alloc _ _) | with_reducible exact Kp.drew _ | with_reducible exact Kp.drewN _ _))).mono ?_; rintro e w' ⟨rfl, k1⟩; have k2 := Kp.trans (show Kp X _ from (by first | assumption | exact Kp.drew _)) k1; clear k1)
  (try go_wp2_with fail)
  refine hK.out _ _ ?_ (fun hHeld10 => ?_)
  · (try dsimp only); exact KS.out _ (by first | assumption | exact Kp.drew _)
  clear hK K hHeld9
  (try simp only [Act.put, iB33, List.setIfInBounds_toArray, List.set_cons_zero, List.set_cons_succ])
  refine tkW (v := ?_) 34 iB34 rfl (by kernel_rfl) (by kernel_rfl) (by kernel_rfl) (fun _ _ _ h => h) (by rfl) ?_ (by assumption) ?_
  rotate_left
  · intro w hSw; (try dsimp only at hSw); go_simp; (try with_reducible rfl)
  (try simp only [Act.put, iB34, List.setIfInBounds_toArray, List.set_cons_zero, List.set_cons_succ])
  refine tkW (v := ?_) 35 iB35 rfl (by kernel_rfl) (by kernel_rfl) (by kernel_rfl) (fun _ _ _ h => h) (by rfl) ?_ (by assumption) ?_
  rotate_left
  · intro w hSw; (try dsimp only at hSw); go_simp; (try with_reducible rfl)
  (try simp only [Act.put, iB35, List.setIfInBounds_toArray, List.set_cons_zero, List.set_cons_succ])
  refine wpAnyH_done (by kernel_rfl) ?_ _
  go_wp2
  go_ret
  exact ⟨rfl, K00.out.trans (KX.out.trans (by first | assumption | exact Kp.drew _))⟩
theorem leafIs_walk (f : LF) (vaf vbf : Value) (pS pE day n : Int) (w : World) (raf : RunsAt w vaf f.a) (rbf : RunsAt w vbf f.b) (iaf : I64R f.a) (ibf : I64R f.b) (hp1 : -9223372036854775808 ≤ pS) (hp2 : pS ≤ 9223372036854775807) (hp3 : -9223372036854775808 ≤ pE) (hp4 : pE ≤ 9223372036854775807) (hday1 : -9223372036854775808 ≤ day) (hday2 : day ≤ 9223372036854775807) (hn1 : -9223372036854775808 ≤ n) (hn2 : n ≤ 9223372036854775807) (T : Tabs w) :
    Calls Tryz.prog 3 #[leafV f vaf vbf, .agg #[.int .i64 pS, .int .i64 pE], .int .i64 day, .int .i64 n] w fun e w' => e = .returned (.bool true) ∧ Kp w w' := by
  rcases Bool.eq_false_or_eq_true (fewB f) with hf | hf
  · exact lis_main f vaf vbf pS pE day n w raf rbf iaf ibf hp1 hp2 hp3 hp4 hday1 hday2 hn1 hn2 T hf
  · exact lis_few f vaf vbf pS pE day n w raf rbf iaf ibf hp1 hp2 hp3 hp4 hday1 hday2 hn1 hn2 T hf
end Go.Proofs.YtfphmhdgnokopaaGreatDoor
