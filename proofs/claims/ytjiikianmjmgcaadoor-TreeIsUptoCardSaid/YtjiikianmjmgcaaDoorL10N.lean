/-
  Layer 10: TreeIs.
-/
import Derived.Test.YtjiikianmjmgcaaDoorGRf
import Derived.Test.YtjiikianmjmgcaaDoorGTrB
namespace Go.Proofs.YtjiikianmjmgcaaDoor
open Go.RowKit
set_option linter.unusedVariables false
set_option linter.unusedSimpArgs false
theorem few_shortN {n : ND} (h : fewN n = true) : shortN n = true := by
  unfold fewN at h
  rw [Bool.and_eq_true] at h
  exact h.2
set_option maxHeartbeats 16000000 in
set_option maxRecDepth 100000 in
theorem treeIs_no1 (k pk : Int) (y m q : ByteArray) (a t : Bool) (l : List ND) (ad : Option Addr) (cp : Nat) (k' pk' : Int) (y' m' q' : ByteArray) (a' t' : Bool) (l' : List ND) (ad' : Option Addr) (cp' : Nat) (w : World) (hu : NodesAt w (.slice ad l.length cp) l) (hv : NodesAt w (.slice ad' l'.length cp') l') (bn : cntL l ≤ 2000000) (bm : cntL l' ≤ 2000000) (T : TabSH w) (hf : fewN (.mk k ⟨pk, y, m, q⟩ a t l : ND) = false) : Calls Tryd.prog 5 #[.agg #[.int .i64 k, .int .i64 pk, .string y, .string m, .string q, .bool a, .bool t, .slice ad l.length cp], .agg #[.int .i64 k', .int .i64 pk', .string y', .string m', .string q', .bool a', .bool t', .slice ad' l'.length cp']] w fun e w' => e = .returned (.bool true) ∧ Kp w w' := by
  have AW := Lib.hid (fun w1 (qq : Kp w w1) => awake10 w1 (T.kp qq))
  have F1 : ∀ w1, Kp w w1 → Calls Tryd.prog 24 #[.agg #[.int .i64 k, .int .i64 pk, .string y, .string m, .string q, .bool a, .bool t, .slice ad l.length cp]] w1 fun e w' => e = .returned (.bool (fewN (.mk k ⟨pk, y, m, q⟩ a t l : ND))) ∧ Kp w1 w' := fun w1 qq => rfewN_any (.mk k ⟨pk, y, m, q⟩ a t l : ND) (.slice ad l.length cp) w1 (hu.kp qq) bn
  have F2 : ∀ w1, Kp w w1 → Calls Tryd.prog 24 #[.agg #[.int .i64 k', .int .i64 pk', .string y', .string m', .string q', .bool a', .bool t', .slice ad' l'.length cp']] w1 fun e w' => e = .returned (.bool (fewN (.mk k' ⟨pk', y', m', q'⟩ a' t' l' : ND))) ∧ Kp w1 w' := fun w1 qq => rfewN_any (.mk k' ⟨pk', y', m', q'⟩ a' t' l' : ND) (.slice ad' l'.length cp') w1 (hv.kp qq) bm
  rw [hf] at F1
  have F1H := Lib.hid F1
  clear F1 F2 hu hv T hf bn bm
  go_enter Tryd.func5, Tryd.ntmps5
  go_wp2_with fail
  refine (AW.out _ ((Kp.alloc _ _).trans (Kp.alloc _ _))).mono ?_
  rintro e w1 ⟨rfl, kk⟩
  have gA := heap_block ((Kp.alloc _ _).trans kk) (heap_at w (.cells #[.int .i64 k, .int .i64 pk, .string y, .string m, .string q, .bool a, .bool t, .slice ad l.length cp] 46) w.heap.size rfl)
  have gB := heap_block kk (heap_at (w.alloc (.cells #[.int .i64 k, .int .i64 pk, .string y, .string m, .string q, .bool a, .bool t, .slice ad l.length cp] 46)) (.cells #[.int .i64 k', .int .i64 pk', .string y', .string m', .string q', .bool a', .bool t', .slice ad' l'.length cp'] 46) (w.heap.size + 1) (by simp))
  have K1 := Lib.hid (((Kp.alloc _ _).trans (Kp.alloc _ _)).trans kk)
  have GA := Lib.hid gA
  have GB := Lib.hid gB
  clear kk gA gB
  obtain ⟨x0, x1, x2, x3, x4, x5, x6, x7⟩ := row8 GA.out
  go_wp2_with fail
  refine (F1H.out _ K1.out).mono ?_
  rintro e w2 ⟨rfl, kk⟩
  have K2 := Lib.hid (K1.out.trans kk)
  have GA2 := Lib.hid (heap_block kk GA.out)
  have GB2 := Lib.hid (heap_block kk GB.out)
  clear kk x0 x1 x2 x3 x4 x5 x6 x7 GA GB
  go_wp2
  go_ret
  exact ⟨rfl, K2.out⟩
set_option maxHeartbeats 16000000 in
set_option maxRecDepth 100000 in
theorem treeIs_no2 (k pk : Int) (y m q : ByteArray) (a t : Bool) (l : List ND) (ad : Option Addr) (cp : Nat) (k' pk' : Int) (y' m' q' : ByteArray) (a' t' : Bool) (l' : List ND) (ad' : Option Addr) (cp' : Nat) (w : World) (hu : NodesAt w (.slice ad l.length cp) l) (hv : NodesAt w (.slice ad' l'.length cp') l') (bn : cntL l ≤ 2000000) (bm : cntL l' ≤ 2000000) (T : TabSH w) (hf : fewN (.mk k ⟨pk, y, m, q⟩ a t l : ND) = true) (hg : fewN (.mk k' ⟨pk', y', m', q'⟩ a' t' l' : ND) = false) : Calls Tryd.prog 5 #[.agg #[.int .i64 k, .int .i64 pk, .string y, .string m, .string q, .bool a, .bool t, .slice ad l.length cp], .agg #[.int .i64 k', .int .i64 pk', .string y', .string m', .string q', .bool a', .bool t', .slice ad' l'.length cp']] w fun e w' => e = .returned (.bool true) ∧ Kp w w' := by
  have AW := Lib.hid (fun w1 (qq : Kp w w1) => awake10 w1 (T.kp qq))
  have F1 : ∀ w1, Kp w w1 → Calls Tryd.prog 24 #[.agg #[.int .i64 k, .int .i64 pk, .string y, .string m, .string q, .bool a, .bool t, .slice ad l.length cp]] w1 fun e w' => e = .returned (.bool (fewN (.mk k ⟨pk, y, m, q⟩ a t l : ND))) ∧ Kp w1 w' := fun w1 qq => rfewN_any (.mk k ⟨pk, y, m, q⟩ a t l : ND) (.slice ad l.length cp) w1 (hu.kp qq) bn
  have F2 : ∀ w1, Kp w w1 → Calls Tryd.prog 24 #[.agg #[.int .i64 k', .int .i64 pk', .string y', .string m', .string q', .bool a', .bool t', .slice ad' l'.length cp']] w1 fun e w' => e = .returned (.bool (fewN (.mk k' ⟨pk', y', m', q'⟩ a' t' l' : ND))) ∧ Kp w1 w' := fun w1 qq => rfewN_any (.mk k' ⟨pk', y', m', q'⟩ a' t' l' : ND) (.slice ad' l'.length cp') w1 (hv.kp qq) bm
  rw [hf] at F1
  rw [hg] at F2
  have F1H := Lib.hid F1
  have F2H := Lib.hid F2
  clear F1 F2 hu hv T hf hg bn bm
  go_enter Tryd.func5, Tryd.ntmps5
  go_wp2_with fail
  refine (AW.out _ ((Kp.alloc _ _).trans (Kp.alloc _ _))).mono ?_
  rintro e w1 ⟨rfl, kk⟩
  have gA := heap_block ((Kp.alloc _ _).trans kk) (heap_at w (.cells #[.int .i64 k, .int .i64 pk, .string y, .string m, .string q, .bool a, .bool t, .slice ad l.length cp] 46) w.heap.size rfl)
  have gB := heap_block kk (heap_at (w.alloc (.cells #[.int .i64 k, .int .i64 pk, .string y, .string m, .string q, .bool a, .bool t, .slice ad l.length cp] 46)) (.cells #[.int .i64 k', .int .i64 pk', .string y', .string m', .string q', .bool a', .bool t', .slice ad' l'.length cp'] 46) (w.heap.size + 1) (by simp))
  have K1 := Lib.hid (((Kp.alloc _ _).trans (Kp.alloc _ _)).trans kk)
  have GA := Lib.hid gA
  have GB := Lib.hid gB
  clear kk gA gB
  obtain ⟨x0, x1, x2, x3, x4, x5, x6, x7⟩ := row8 GA.out
  go_wp2_with fail
  refine (F1H.out _ K1.out).mono ?_
  rintro e w2 ⟨rfl, kk⟩
  have K2 := Lib.hid (K1.out.trans kk)
  have GA2 := Lib.hid (heap_block kk GA.out)
  have GB2 := Lib.hid (heap_block kk GB.out)
  clear kk x0 x1 x2 x3 x4 x5 x6 x7 GA GB
  obtain ⟨x0, x1, x2, x3, x4, x5, x6, x7⟩ := row8 GB2.out
  go_wp2_with fail
  refine (F2H.out _ K2.out).mono ?_
  rintro e w3 ⟨rfl, kk⟩
  have K3 := Lib.hid (K2.out.trans kk)
  have GA := Lib.hid (heap_block kk GA2.out)
  have GB := Lib.hid (heap_block kk GB2.out)
  clear kk x0 x1 x2 x3 x4 x5 x6 x7 GA2 GB2
  go_wp2
  go_ret
  exact ⟨rfl, K3.out⟩
abbrev sI0 : Oper := { dst := some 16, op := Go.Op.move (Go.Operand.tmp 5), type := 4, pos := "law.go:24", after := #[], guard := none }
abbrev sI1 : Oper := { dst := some 17, op := Go.Op.move (Go.Operand.tmp 16), type := 4, pos := "law.go:24", after := #[{ on := 0, ground := Go.Ground.data }], guard := none }
abbrev sI2 : Oper := { dst := some 18, op := Go.Op.load 46 (Go.Operand.tmp 2), type := 46, pos := "law.go:24", after := #[{ on := 1, ground := Go.Ground.guard }], guard := some (1, true) }
abbrev sI3 : Oper := { dst := some 19, op := Go.Op.call { callee := Go.Callee.value (Go.Operand.func 25), args := #[Go.Operand.tmp 18], argTypes := #[46] }, type := 4, pos := "law.go:24", after := #[{ on := 2, ground := Go.Ground.data }, { on := 1, ground := Go.Ground.chain }, { on := 1, ground := Go.Ground.guard }], guard := some (1, true) }
abbrev sI4 : Oper := { dst := some 20, op := Go.Op.load 46 (Go.Operand.tmp 2), type := 46, pos := "law.go:24", after := #[{ on := 1, ground := Go.Ground.guard }], guard := some (1, true) }
abbrev sI5 : Oper := { dst := some 21, op := Go.Op.call { callee := Go.Callee.value (Go.Operand.func 26), args := #[Go.Operand.tmp 20], argTypes := #[46] }, type := 4, pos := "law.go:24", after := #[{ on := 4, ground := Go.Ground.data }, { on := 3, ground := Go.Ground.chain }, { on := 1, ground := Go.Ground.guard }], guard := some (1, true) }
abbrev sI6 : Oper := { dst := some 22, op := Go.Op.binOp Go.BinOp.eql 4 (Go.Operand.tmp 19) (Go.Operand.tmp 21) 4, type := 4, pos := "law.go:24", after := #[{ on := 3, ground := Go.Ground.data }, { on := 5, ground := Go.Ground.data }, { on := 1, ground := Go.Ground.guard }], guard := some (1, true) }
abbrev sI7 : Oper := { dst := some 23, op := Go.Op.pick (Go.Operand.tmp 17) (Go.Operand.tmp 22) (Go.Operand.const (Go.Value.bool false)), type := 4, pos := "law.go:24", after := #[{ on := 1, ground := Go.Ground.data }, { on := 6, ground := Go.Ground.data }], guard := none }
abbrev sI8 : Oper := { dst := some 24, op := Go.Op.move (Go.Operand.tmp 23), type := 4, pos := "law.go:24", after := #[{ on := 7, ground := Go.Ground.data }, { on := 5, ground := Go.Ground.chain }], guard := none }
abbrev sI9 : Oper := { dst := some 25, op := Go.Op.load 46 (Go.Operand.tmp 2), type := 46, pos := "law.go:24", after := #[{ on := 8, ground := Go.Ground.guard }], guard := some (8, true) }
abbrev sI10 : Oper := { dst := some 26, op := Go.Op.call { callee := Go.Callee.value (Go.Operand.func 27), args := #[Go.Operand.tmp 25], argTypes := #[46] }, type := 4, pos := "law.go:24", after := #[{ on := 9, ground := Go.Ground.data }, { on := 8, ground := Go.Ground.chain }, { on := 8, ground := Go.Ground.guard }], guard := some (8, true) }
abbrev sI11 : Oper := { dst := some 27, op := Go.Op.load 46 (Go.Operand.tmp 2), type := 46, pos := "law.go:24", after := #[{ on := 8, ground := Go.Ground.guard }], guard := some (8, true) }
abbrev sI12 : Oper := { dst := some 28, op := Go.Op.call { callee := Go.Callee.value (Go.Operand.func 28), args := #[Go.Operand.tmp 27], argTypes := #[46] }, type := 4, pos := "law.go:24", after := #[{ on := 11, ground := Go.Ground.data }, { on := 10, ground := Go.Ground.chain }, { on := 8, ground := Go.Ground.guard }], guard := some (8, true) }
abbrev sI13 : Oper := { dst := some 29, op := Go.Op.binOp Go.BinOp.eql 4 (Go.Operand.tmp 26) (Go.Operand.tmp 28) 4, type := 4, pos := "law.go:24", after := #[{ on := 10, ground := Go.Ground.data }, { on := 12, ground := Go.Ground.data }, { on := 8, ground := Go.Ground.guard }], guard := some (8, true) }
abbrev sI14 : Oper := { dst := some 30, op := Go.Op.pick (Go.Operand.tmp 24) (Go.Operand.tmp 29) (Go.Operand.const (Go.Value.bool false)), type := 4, pos := "law.go:24", after := #[{ on := 8, ground := Go.Ground.data }, { on := 13, ground := Go.Ground.data }], guard := none }
abbrev sI15 : Oper := { dst := some 31, op := Go.Op.move (Go.Operand.tmp 30), type := 4, pos := "law.go:24", after := #[{ on := 14, ground := Go.Ground.data }, { on := 12, ground := Go.Ground.chain }], guard := none }
abbrev sI16 : Oper := { dst := some 32, op := Go.Op.load 46 (Go.Operand.tmp 2), type := 46, pos := "law.go:24", after := #[{ on := 15, ground := Go.Ground.guard }], guard := some (15, true) }
abbrev sI17 : Oper := { dst := some 33, op := Go.Op.call { callee := Go.Callee.value (Go.Operand.func 29), args := #[Go.Operand.tmp 32], argTypes := #[46] }, type := 3, pos := "law.go:24", after := #[{ on := 16, ground := Go.Ground.data }, { on := 15, ground := Go.Ground.chain }, { on := 15, ground := Go.Ground.guard }], guard := some (15, true) }
abbrev sI18 : Oper := { dst := some 34, op := Go.Op.load 46 (Go.Operand.tmp 2), type := 46, pos := "law.go:24", after := #[{ on := 15, ground := Go.Ground.guard }], guard := some (15, true) }
abbrev sI19 : Oper := { dst := some 35, op := Go.Op.call { callee := Go.Callee.value (Go.Operand.func 30), args := #[Go.Operand.tmp 34], argTypes := #[46] }, type := 3, pos := "law.go:24", after := #[{ on := 18, ground := Go.Ground.data }, { on := 17, ground := Go.Ground.chain }, { on := 15, ground := Go.Ground.guard }], guard := some (15, true) }
abbrev sI20 : Oper := { dst := some 36, op := Go.Op.binOp Go.BinOp.eql 3 (Go.Operand.tmp 33) (Go.Operand.tmp 35) 3, type := 4, pos := "law.go:24", after := #[{ on := 17, ground := Go.Ground.data }, { on := 19, ground := Go.Ground.data }, { on := 15, ground := Go.Ground.guard }], guard := some (15, true) }
abbrev sI21 : Oper := { dst := some 37, op := Go.Op.pick (Go.Operand.tmp 31) (Go.Operand.tmp 36) (Go.Operand.const (Go.Value.bool false)), type := 4, pos := "law.go:24", after := #[{ on := 15, ground := Go.Ground.data }, { on := 20, ground := Go.Ground.data }], guard := none }
abbrev sI22 : Oper := { dst := some 38, op := Go.Op.move (Go.Operand.tmp 37), type := 4, pos := "law.go:24", after := #[{ on := 21, ground := Go.Ground.data }, { on := 19, ground := Go.Ground.chain }], guard := none }
abbrev sI23 : Oper := { dst := some 39, op := Go.Op.load 46 (Go.Operand.tmp 2), type := 46, pos := "law.go:24", after := #[{ on := 22, ground := Go.Ground.guard }], guard := some (22, true) }
abbrev sI24 : Oper := { dst := some 40, op := Go.Op.call { callee := Go.Callee.value (Go.Operand.func 31), args := #[Go.Operand.tmp 39], argTypes := #[46] }, type := 3, pos := "law.go:24", after := #[{ on := 23, ground := Go.Ground.data }, { on := 22, ground := Go.Ground.chain }, { on := 22, ground := Go.Ground.guard }], guard := some (22, true) }
abbrev sI25 : Oper := { dst := some 41, op := Go.Op.load 46 (Go.Operand.tmp 2), type := 46, pos := "law.go:24", after := #[{ on := 22, ground := Go.Ground.guard }], guard := some (22, true) }
abbrev sI26 : Oper := { dst := some 42, op := Go.Op.call { callee := Go.Callee.value (Go.Operand.func 32), args := #[Go.Operand.tmp 41], argTypes := #[46] }, type := 3, pos := "law.go:24", after := #[{ on := 25, ground := Go.Ground.data }, { on := 24, ground := Go.Ground.chain }, { on := 22, ground := Go.Ground.guard }], guard := some (22, true) }
abbrev sI27 : Oper := { dst := some 43, op := Go.Op.binOp Go.BinOp.eql 3 (Go.Operand.tmp 40) (Go.Operand.tmp 42) 3, type := 4, pos := "law.go:24", after := #[{ on := 24, ground := Go.Ground.data }, { on := 26, ground := Go.Ground.data }, { on := 22, ground := Go.Ground.guard }], guard := some (22, true) }
abbrev sI28 : Oper := { dst := some 44, op := Go.Op.pick (Go.Operand.tmp 38) (Go.Operand.tmp 43) (Go.Operand.const (Go.Value.bool false)), type := 4, pos := "law.go:24", after := #[{ on := 22, ground := Go.Ground.data }, { on := 27, ground := Go.Ground.data }], guard := none }
abbrev sI29 : Oper := { dst := some 45, op := Go.Op.move (Go.Operand.tmp 44), type := 4, pos := "law.go:24", after := #[{ on := 28, ground := Go.Ground.data }, { on := 26, ground := Go.Ground.chain }], guard := none }
abbrev sI30 : Oper := { dst := some 46, op := Go.Op.load 46 (Go.Operand.tmp 2), type := 46, pos := "law.go:24", after := #[{ on := 29, ground := Go.Ground.guard }], guard := some (29, true) }
abbrev sI31 : Oper := { dst := some 47, op := Go.Op.load 46 (Go.Operand.tmp 3), type := 46, pos := "law.go:24", after := #[{ on := 29, ground := Go.Ground.guard }], guard := some (29, true) }
abbrev sI32 : Oper := { dst := some 48, op := Go.Op.call { callee := Go.Callee.value (Go.Operand.func 33), args := #[Go.Operand.tmp 46, Go.Operand.tmp 47], argTypes := #[46, 46] }, type := 4, pos := "law.go:24", after := #[{ on := 30, ground := Go.Ground.data }, { on := 31, ground := Go.Ground.data }, { on := 29, ground := Go.Ground.chain }, { on := 29, ground := Go.Ground.guard }], guard := some (29, true) }
abbrev sI33 : Oper := { dst := some 49, op := Go.Op.load 46 (Go.Operand.tmp 2), type := 46, pos := "law.go:24", after := #[{ on := 29, ground := Go.Ground.guard }], guard := some (29, true) }
abbrev sI34 : Oper := { dst := some 50, op := Go.Op.load 46 (Go.Operand.tmp 3), type := 46, pos := "law.go:24", after := #[{ on := 29, ground := Go.Ground.guard }], guard := some (29, true) }
abbrev sI35 : Oper := { dst := some 51, op := Go.Op.call { callee := Go.Callee.value (Go.Operand.func 34), args := #[Go.Operand.tmp 49, Go.Operand.tmp 50], argTypes := #[46, 46] }, type := 4, pos := "law.go:24", after := #[{ on := 33, ground := Go.Ground.data }, { on := 34, ground := Go.Ground.data }, { on := 32, ground := Go.Ground.chain }, { on := 29, ground := Go.Ground.guard }], guard := some (29, true) }
abbrev sI36 : Oper := { dst := some 52, op := Go.Op.binOp Go.BinOp.eql 4 (Go.Operand.tmp 48) (Go.Operand.tmp 51) 4, type := 4, pos := "law.go:24", after := #[{ on := 32, ground := Go.Ground.data }, { on := 35, ground := Go.Ground.data }, { on := 29, ground := Go.Ground.guard }], guard := some (29, true) }
abbrev sI37 : Oper := { dst := some 53, op := Go.Op.pick (Go.Operand.tmp 45) (Go.Operand.tmp 52) (Go.Operand.const (Go.Value.bool false)), type := 4, pos := "law.go:24", after := #[{ on := 29, ground := Go.Ground.data }, { on := 36, ground := Go.Ground.data }], guard := none }
abbrev sI38 : Oper := { dst := some 54, op := Go.Op.move (Go.Operand.tmp 53), type := 4, pos := "law.go:24", after := #[{ on := 37, ground := Go.Ground.data }, { on := 35, ground := Go.Ground.chain }], guard := none }
abbrev sI39 : Oper := { dst := some 55, op := Go.Op.load 46 (Go.Operand.tmp 2), type := 46, pos := "law.go:24", after := #[{ on := 38, ground := Go.Ground.guard }], guard := some (38, true) }
abbrev sI40 : Oper := { dst := some 56, op := Go.Op.load 46 (Go.Operand.tmp 2), type := 46, pos := "law.go:24", after := #[{ on := 38, ground := Go.Ground.guard }], guard := some (38, true) }
abbrev sI41 : Oper := { dst := some 57, op := Go.Op.call { callee := Go.Callee.value (Go.Operand.func 33), args := #[Go.Operand.tmp 55, Go.Operand.tmp 56], argTypes := #[46, 46] }, type := 4, pos := "law.go:24", after := #[{ on := 39, ground := Go.Ground.data }, { on := 40, ground := Go.Ground.data }, { on := 38, ground := Go.Ground.chain }, { on := 38, ground := Go.Ground.guard }], guard := some (38, true) }
abbrev sI42 : Oper := { dst := some 58, op := Go.Op.pick (Go.Operand.tmp 54) (Go.Operand.tmp 57) (Go.Operand.const (Go.Value.bool false)), type := 4, pos := "law.go:24", after := #[{ on := 38, ground := Go.Ground.data }, { on := 41, ground := Go.Ground.data }], guard := none }
abbrev sI43 : Oper := { dst := some 4, op := Go.Op.assign (Go.Operand.tmp 58), type := 4, pos := "law.go:24", after := #[{ on := 42, ground := Go.Ground.data }, { on := 41, ground := Go.Ground.chain }, { on := 0, ground := Go.Ground.phase }, { on := 1, ground := Go.Ground.phase }, { on := 2, ground := Go.Ground.phase }, { on := 3, ground := Go.Ground.phase }, { on := 4, ground := Go.Ground.phase }, { on := 5, ground := Go.Ground.phase }, { on := 6, ground := Go.Ground.phase }, { on := 7, ground := Go.Ground.phase }, { on := 8, ground := Go.Ground.phase }, { on := 9, ground := Go.Ground.phase }, { on := 10, ground := Go.Ground.phase }, { on := 11, ground := Go.Ground.phase }, { on := 12, ground := Go.Ground.phase }, { on := 13, ground := Go.Ground.phase }, { on := 14, ground := Go.Ground.phase }, { on := 15, ground := Go.Ground.phase }, { on := 16, ground := Go.Ground.phase }, { on := 17, ground := Go.Ground.phase }, { on := 18, ground := Go.Ground.phase }, { on := 19, ground := Go.Ground.phase }, { on := 20, ground := Go.Ground.phase }, { on := 21, ground := Go.Ground.phase }, { on := 22, ground := Go.Ground.phase }, { on := 23, ground := Go.Ground.phase }, { on := 24, ground := Go.Ground.phase }, { on := 25, ground := Go.Ground.phase }, { on := 26, ground := Go.Ground.phase }, { on := 27, ground := Go.Ground.phase }, { on := 28, ground := Go.Ground.phase }, { on := 29, ground := Go.Ground.phase }, { on := 30, ground := Go.Ground.phase }, { on := 31, ground := Go.Ground.phase }, { on := 32, ground := Go.Ground.phase }, { on := 33, ground := Go.Ground.phase }, { on := 34, ground := Go.Ground.phase }, { on := 35, ground := Go.Ground.phase }, { on := 36, ground := Go.Ground.phase }, { on := 37, ground := Go.Ground.phase }, { on := 38, ground := Go.Ground.phase }, { on := 39, ground := Go.Ground.phase }, { on := 40, ground := Go.Ground.phase }, { on := 41, ground := Go.Ground.phase }, { on := 42, ground := Go.Ground.phase }], guard := none }
set_option maxHeartbeats 16000000 in
set_option maxRecDepth 100000 in
theorem treeIs_yes (k pk : Int) (y m q : ByteArray) (a t : Bool) (l : List ND) (ad : Option Addr) (cp : Nat) (k' pk' : Int) (y' m' q' : ByteArray) (a' t' : Bool) (l' : List ND) (ad' : Option Addr) (cp' : Nat) (w : World) (hu : NodesAt w (.slice ad l.length cp) l) (hv : NodesAt w (.slice ad' l'.length cp') l') (bn : cntL l ≤ 2000000) (bm : cntL l' ≤ 2000000) (T : TabSH w) (hf : fewN (.mk k ⟨pk, y, m, q⟩ a t l : ND) = true) (hg : fewN (.mk k' ⟨pk', y', m', q'⟩ a' t' l' : ND) = true) : Calls Tryd.prog 5 #[.agg #[.int .i64 k, .int .i64 pk, .string y, .string m, .string q, .bool a, .bool t, .slice ad l.length cp], .agg #[.int .i64 k', .int .i64 pk', .string y', .string m', .string q', .bool a', .bool t', .slice ad' l'.length cp']] w fun e w' => e = .returned (.bool true) ∧ Kp w w' := by
  have AW := Lib.hid (fun w1 (qq : Kp w w1) => awake10 w1 (T.kp qq))
  have F1 : ∀ w1, Kp w w1 → Calls Tryd.prog 24 #[.agg #[.int .i64 k, .int .i64 pk, .string y, .string m, .string q, .bool a, .bool t, .slice ad l.length cp]] w1 fun e w' => e = .returned (.bool (fewN (.mk k ⟨pk, y, m, q⟩ a t l : ND))) ∧ Kp w1 w' := fun w1 qq => rfewN_any (.mk k ⟨pk, y, m, q⟩ a t l : ND) (.slice ad l.length cp) w1 (hu.kp qq) bn
  have F2 : ∀ w1, Kp w w1 → Calls Tryd.prog 24 #[.agg #[.int .i64 k', .int .i64 pk', .string y', .string m', .string q', .bool a', .bool t', .slice ad' l'.length cp']] w1 fun e w' => e = .returned (.bool (fewN (.mk k' ⟨pk', y', m', q'⟩ a' t' l' : ND))) ∧ Kp w1 w' := fun w1 qq => rfewN_any (.mk k' ⟨pk', y', m', q'⟩ a' t' l' : ND) (.slice ad' l'.length cp') w1 (hv.kp qq) bm
  rw [hf] at F1
  rw [hg] at F2
  have F1H := Lib.hid F1
  have F2H := Lib.hid F2
  have cn := few_cnt hf
  have sn := few_shortN hf
  have TS : ∀ w1, Kp w w1 → Calls Tryd.prog 25 #[.agg #[.int .i64 k, .int .i64 pk, .string y, .string m, .string q, .bool a, .bool t, .slice ad l.length cp]] w1 fun e w' => e = .returned (.bool (saneN saneP (.mk k ⟨pk, y, m, q⟩ a t l : ND))) ∧ Kp w1 w' := fun w1 qq => tSane_any (.mk k ⟨pk, y, m, q⟩ a t l : ND) (.slice ad l.length cp) w1 (hu.kp qq) cn (T.kp qq)
  have TSH := Lib.hid TS
  clear TS
  have RS : ∀ w1, Kp w w1 → Calls Tryd.prog 26 #[.agg #[.int .i64 k, .int .i64 pk, .string y, .string m, .string q, .bool a, .bool t, .slice ad l.length cp]] w1 fun e w' => e = .returned (.bool (saneN saneP (.mk k ⟨pk, y, m, q⟩ a t l : ND))) ∧ Kp w1 w' := fun w1 qq => rsaneN_any (.mk k ⟨pk, y, m, q⟩ a t l : ND) (.slice ad l.length cp) w1 (hu.kp qq) sn bn
  have RSH := Lib.hid RS
  clear RS
  have TE : ∀ w1, Kp w w1 → Calls Tryd.prog 27 #[.agg #[.int .i64 k, .int .i64 pk, .string y, .string m, .string q, .bool a, .bool t, .slice ad l.length cp]] w1 fun e w' => e = .returned (.bool (endN saneP (.mk k ⟨pk, y, m, q⟩ a t l : ND))) ∧ Kp w1 w' := fun w1 qq => end_any (.mk k ⟨pk, y, m, q⟩ a t l : ND) (.slice ad l.length cp) w1 ⟨_, _, rfl⟩ (T.kp qq)
  have TEH := Lib.hid TE
  clear TE
  have RE : ∀ w1, Kp w w1 → Calls Tryd.prog 28 #[.agg #[.int .i64 k, .int .i64 pk, .string y, .string m, .string q, .bool a, .bool t, .slice ad l.length cp]] w1 fun e w' => e = .returned (.bool (endN saneP (.mk k ⟨pk, y, m, q⟩ a t l : ND))) ∧ Kp w1 w' := fun w1 qq => rend_any (.mk k ⟨pk, y, m, q⟩ a t l : ND) (.slice ad l.length cp) w1 ⟨_, _, rfl⟩ sn
  have REH := Lib.hid RE
  clear RE
  have TC : ∀ w1, Kp w w1 → Calls Tryd.prog 29 #[.agg #[.int .i64 k, .int .i64 pk, .string y, .string m, .string q, .bool a, .bool t, .slice ad l.length cp]] w1 fun e w' => e = .returned (.int .i64 (cntN (.mk k ⟨pk, y, m, q⟩ a t l : ND) : Nat)) ∧ Kp w1 w' := fun w1 qq => tCount_any (.mk k ⟨pk, y, m, q⟩ a t l : ND) (.slice ad l.length cp) w1 (hu.kp qq) cn
  have TCH := Lib.hid TC
  clear TC
  have RC : ∀ w1, Kp w w1 → Calls Tryd.prog 30 #[.agg #[.int .i64 k, .int .i64 pk, .string y, .string m, .string q, .bool a, .bool t, .slice ad l.length cp]] w1 fun e w' => e = .returned (.int .i64 (cntN (.mk k ⟨pk, y, m, q⟩ a t l : ND) : Nat)) ∧ Kp w1 w' := fun w1 qq => rCount_any w hu k ⟨pk, y, m, q⟩ a t w1 qq bn
  have RCH := Lib.hid RC
  clear RC
  have TD : ∀ w1, Kp w w1 → Calls Tryd.prog 31 #[.agg #[.int .i64 k, .int .i64 pk, .string y, .string m, .string q, .bool a, .bool t, .slice ad l.length cp]] w1 fun e w' => e = .returned (.int .i64 (depN (.mk k ⟨pk, y, m, q⟩ a t l : ND) : Nat)) ∧ Kp w1 w' := fun w1 qq => tDeep_any (.mk k ⟨pk, y, m, q⟩ a t l : ND) (.slice ad l.length cp) w1 (hu.kp qq) cn
  have TDH := Lib.hid TD
  clear TD
  have RD : ∀ w1, Kp w w1 → Calls Tryd.prog 32 #[.agg #[.int .i64 k, .int .i64 pk, .string y, .string m, .string q, .bool a, .bool t, .slice ad l.length cp]] w1 fun e w' => e = .returned (.int .i64 (depN (.mk k ⟨pk, y, m, q⟩ a t l : ND) : Nat)) ∧ Kp w1 w' := fun w1 qq => rDeep_any w hu k ⟨pk, y, m, q⟩ a t w1 qq bn
  have RDH := Lib.hid RD
  clear RD
  have TM : ∀ w1, Kp w w1 → Calls Tryd.prog 33 #[.agg #[.int .i64 k, .int .i64 pk, .string y, .string m, .string q, .bool a, .bool t, .slice ad l.length cp], .agg #[.int .i64 k', .int .i64 pk', .string y', .string m', .string q', .bool a', .bool t', .slice ad' l'.length cp']] w1 fun e w' => e = .returned (.bool (sameN (.mk k ⟨pk, y, m, q⟩ a t l : ND) (.mk k' ⟨pk', y', m', q'⟩ a' t' l' : ND))) ∧ Kp w1 w' := fun w1 qq => tSame_any (.mk k ⟨pk, y, m, q⟩ a t l : ND) (.mk k' ⟨pk', y', m', q'⟩ a' t' l' : ND) (.slice ad l.length cp) (.slice ad' l'.length cp') w1 (hu.kp qq) (hv.kp qq) cn
  have TMH := Lib.hid TM
  clear TM
  have RM : ∀ w1, Kp w w1 → Calls Tryd.prog 34 #[.agg #[.int .i64 k, .int .i64 pk, .string y, .string m, .string q, .bool a, .bool t, .slice ad l.length cp], .agg #[.int .i64 k', .int .i64 pk', .string y', .string m', .string q', .bool a', .bool t', .slice ad' l'.length cp']] w1 fun e w' => e = .returned (.bool (sameN (.mk k ⟨pk, y, m, q⟩ a t l : ND) (.mk k' ⟨pk', y', m', q'⟩ a' t' l' : ND))) ∧ Kp w1 w' := fun w1 qq => rSame_any w hu k ⟨pk, y, m, q⟩ a t (.mk k' ⟨pk', y', m', q'⟩ a' t' l' : ND) (.slice ad' l'.length cp') w1 hv qq bn
  have RMH := Lib.hid RM
  clear RM
  have TI : ∀ w1, Kp w w1 → Calls Tryd.prog 33 #[.agg #[.int .i64 k, .int .i64 pk, .string y, .string m, .string q, .bool a, .bool t, .slice ad l.length cp], .agg #[.int .i64 k, .int .i64 pk, .string y, .string m, .string q, .bool a, .bool t, .slice ad l.length cp]] w1 fun e w' => e = .returned (.bool true) ∧ Kp w1 w' := fun w1 qq => by
    have this := tSame_any (.mk k ⟨pk, y, m, q⟩ a t l : ND) (.mk k ⟨pk, y, m, q⟩ a t l : ND) (.slice ad l.length cp) (.slice ad l.length cp) w1 (hu.kp qq) (hu.kp qq) cn
    rw [(same_iff _ _).2 rfl] at this
    exact this
  have TIH := Lib.hid TI
  clear TI
  obtain ⟨sb, hsb⟩ : ∃ b, saneN saneP (.mk k ⟨pk, y, m, q⟩ a t l : ND) = b := ⟨_, rfl⟩
  obtain ⟨eb, heb⟩ : ∃ b, endN saneP (.mk k ⟨pk, y, m, q⟩ a t l : ND) = b := ⟨_, rfl⟩
  obtain ⟨mb, hmb⟩ : ∃ b, sameN (.mk k ⟨pk, y, m, q⟩ a t l : ND) (.mk k' ⟨pk', y', m', q'⟩ a' t' l' : ND) = b := ⟨_, rfl⟩
  obtain ⟨cc, hcc⟩ : ∃ z : Int, ((cntN (.mk k ⟨pk, y, m, q⟩ a t l : ND) : Nat) : Int) = z := ⟨_, rfl⟩
  obtain ⟨dd, hdd⟩ : ∃ z : Int, ((depN (.mk k ⟨pk, y, m, q⟩ a t l : ND) : Nat) : Int) = z := ⟨_, rfl⟩
  rw [hsb] at TSH RSH
  rw [heb] at TEH REH
  rw [hmb] at TMH RMH
  rw [hcc] at TCH RCH
  rw [hdd] at TDH RDH
  clear hsb heb hmb hcc hdd
  clear F1 F2 hu hv T hf hg bn bm cn sn
  go_enter Tryd.func5, Tryd.ntmps5
  go_wp2_with fail
  refine (AW.out _ ((Kp.alloc _ _).trans (Kp.alloc _ _))).mono ?_
  rintro e w1 ⟨rfl, kk⟩
  have gA := heap_block ((Kp.alloc _ _).trans kk) (heap_at w (.cells #[.int .i64 k, .int .i64 pk, .string y, .string m, .string q, .bool a, .bool t, .slice ad l.length cp] 46) w.heap.size rfl)
  have gB := heap_block kk (heap_at (w.alloc (.cells #[.int .i64 k, .int .i64 pk, .string y, .string m, .string q, .bool a, .bool t, .slice ad l.length cp] 46)) (.cells #[.int .i64 k', .int .i64 pk', .string y', .string m', .string q', .bool a', .bool t', .slice ad' l'.length cp'] 46) (w.heap.size + 1) (by simp))
  have K1 := Lib.hid (((Kp.alloc _ _).trans (Kp.alloc _ _)).trans kk)
  have GA := Lib.hid gA
  have GB := Lib.hid gB
  clear kk gA gB
  obtain ⟨x0, x1, x2, x3, x4, x5, x6, x7⟩ := row8 GA.out
  go_wp2_with fail
  refine (F1H.out _ K1.out).mono ?_
  rintro e w2 ⟨rfl, kk⟩
  have K2 := Lib.hid (K1.out.trans kk)
  have GA2 := Lib.hid (heap_block kk GA.out)
  have GB2 := Lib.hid (heap_block kk GB.out)
  clear kk x0 x1 x2 x3 x4 x5 x6 x7 GA GB
  obtain ⟨x0, x1, x2, x3, x4, x5, x6, x7⟩ := row8 GB2.out
  go_wp2_with fail
  refine (F2H.out _ K2.out).mono ?_
  rintro e w3 ⟨rfl, kk⟩
  have K3 := Lib.hid (K2.out.trans kk)
  have GA := Lib.hid (heap_block kk GA2.out)
  have GB := Lib.hid (heap_block kk GB2.out)
  clear kk x0 x1 x2 x3 x4 x5 x6 x7 GA2 GB2
  have KS := Lib.hid (fun w' (qq : Kp w3 w') => show w'.cell? ⟨w.heap.size, 0, none⟩ = some (.int .i64 k) ∧ w'.cell? ⟨w.heap.size, 1, none⟩ = some (.int .i64 pk) ∧ w'.cell? ⟨w.heap.size, 2, none⟩ = some (.string y) ∧ w'.cell? ⟨w.heap.size, 3, none⟩ = some (.string m) ∧ w'.cell? ⟨w.heap.size, 4, none⟩ = some (.string q) ∧ w'.cell? ⟨w.heap.size, 5, none⟩ = some (.bool a) ∧ w'.cell? ⟨w.heap.size, 6, none⟩ = some (.bool t) ∧ w'.cell? ⟨w.heap.size, 7, none⟩ = some (.slice ad l.length cp) ∧ w'.cell? ⟨w.heap.size + 1, 0, none⟩ = some (.int .i64 k') ∧ w'.cell? ⟨w.heap.size + 1, 1, none⟩ = some (.int .i64 pk') ∧ w'.cell? ⟨w.heap.size + 1, 2, none⟩ = some (.string y') ∧ w'.cell? ⟨w.heap.size + 1, 3, none⟩ = some (.string m') ∧ w'.cell? ⟨w.heap.size + 1, 4, none⟩ = some (.string q') ∧ w'.cell? ⟨w.heap.size + 1, 5, none⟩ = some (.bool a') ∧ w'.cell? ⟨w.heap.size + 1, 6, none⟩ = some (.bool t') ∧ w'.cell? ⟨w.heap.size + 1, 7, none⟩ = some (.slice ad' l'.length cp') ∧ Kp w3 w' from ⟨(row8 (heap_block qq GA.out)).1, (row8 (heap_block qq GA.out)).2.1, (row8 (heap_block qq GA.out)).2.2.1, (row8 (heap_block qq GA.out)).2.2.2.1, (row8 (heap_block qq GA.out)).2.2.2.2.1, (row8 (heap_block qq GA.out)).2.2.2.2.2.1, (row8 (heap_block qq GA.out)).2.2.2.2.2.2.1, (row8 (heap_block qq GA.out)).2.2.2.2.2.2.2, (row8 (heap_block qq GB.out)).1, (row8 (heap_block qq GB.out)).2.1, (row8 (heap_block qq GB.out)).2.2.1, (row8 (heap_block qq GB.out)).2.2.2.1, (row8 (heap_block qq GB.out)).2.2.2.2.1, (row8 (heap_block qq GB.out)).2.2.2.2.2.1, (row8 (heap_block qq GB.out)).2.2.2.2.2.2.1, (row8 (heap_block qq GB.out)).2.2.2.2.2.2.2, qq⟩)
  go_wp2_with fail
  refine wp_region_held_drew (S := fun w' => w'.cell? ⟨w.heap.size, 0, none⟩ = some (.int .i64 k) ∧ w'.cell? ⟨w.heap.size, 1, none⟩ = some (.int .i64 pk) ∧ w'.cell? ⟨w.heap.size, 2, none⟩ = some (.string y) ∧ w'.cell? ⟨w.heap.size, 3, none⟩ = some (.string m) ∧ w'.cell? ⟨w.heap.size, 4, none⟩ = some (.string q) ∧ w'.cell? ⟨w.heap.size, 5, none⟩ = some (.bool a) ∧ w'.cell? ⟨w.heap.size, 6, none⟩ = some (.bool t) ∧ w'.cell? ⟨w.heap.size, 7, none⟩ = some (.slice ad l.length cp) ∧ w'.cell? ⟨w.heap.size + 1, 0, none⟩ = some (.int .i64 k') ∧ w'.cell? ⟨w.heap.size + 1, 1, none⟩ = some (.int .i64 pk') ∧ w'.cell? ⟨w.heap.size + 1, 2, none⟩ = some (.string y') ∧ w'.cell? ⟨w.heap.size + 1, 3, none⟩ = some (.string m') ∧ w'.cell? ⟨w.heap.size + 1, 4, none⟩ = some (.string q') ∧ w'.cell? ⟨w.heap.size + 1, 5, none⟩ = some (.bool a') ∧ w'.cell? ⟨w.heap.size + 1, 6, none⟩ = some (.bool t') ∧ w'.cell? ⟨w.heap.size + 1, 7, none⟩ = some (.slice ad' l'.length cp') ∧ Kp w3 w') (by kernel_rfl) ?_ (fun hHeld0 => ?_)
  · (try dsimp only); exact KS.out _ (by first | assumption | exact Kp.drew _ | exact Kp.refl _)
  refine tkW (v := ?_) 0 sI0 rfl (by kernel_rfl) (by kernel_rfl) (by kernel_rfl) (fun _ _ _ h => h) (by rfl) ?_ (by assumption) ?_
  rotate_left
  · intro w hSw; (try dsimp only at hSw); go_simp; (try with_reducible rfl)
  (try simp only [Act.put, sI0, List.setIfInBounds_toArray, List.set_cons_zero, List.set_cons_succ])
  refine tkW (v := ?_) 1 sI1 rfl (by kernel_rfl) (by kernel_rfl) (by kernel_rfl) (fun _ _ _ h => h) (by rfl) ?_ (by assumption) ?_
  rotate_left
  · intro w hSw; (try dsimp only at hSw); go_simp; (try with_reducible rfl)
  (try simp only [Act.put, sI1, List.setIfInBounds_toArray, List.set_cons_zero, List.set_cons_succ])
  refine tkW (v := ?_) 2 sI2 rfl (by kernel_rfl) (by kernel_rfl) (by kernel_rfl) (fun _ _ _ h => h) (by rfl) ?_ (by assumption) ?_
  rotate_left
  · intro w hSw; (try dsimp only at hSw); go_simp; (try with_reducible rfl)
  (try simp only [Act.put, sI2, List.setIfInBounds_toArray, List.set_cons_zero, List.set_cons_succ])
  refine tkW (v := ?_) 4 sI4 rfl (by kernel_rfl) (by kernel_rfl) (by kernel_rfl) (fun _ _ _ h => h) (by rfl) ?_ (by assumption) ?_
  rotate_left
  · intro w hSw; (try dsimp only at hSw); go_simp; (try with_reducible rfl)
  (try simp only [Act.put, sI4, List.setIfInBounds_toArray, List.set_cons_zero, List.set_cons_succ])
  refine tkE 3 sI3 rfl (by kernel_rfl) (fun K hK => ?_)
  go_simp
  (refine (TSH.out _ (K3.out.trans (by first | assumption | exact Kp.drew _ | exact Kp.refl _))).mono ?_; rintro e w' ⟨rfl, kq⟩; have k2 := Kp.trans (show Kp w3 _ from (by first | assumption | exact Kp.drew _ | exact Kp.refl _)) kq; clear kq)
  (try go_wp2_with fail)
  refine hK.out _ _ ?_ (fun hHeld1 => ?_)
  · (try dsimp only); exact KS.out _ (by first | assumption | exact Kp.drew _ | exact Kp.refl _)
  clear hK K hHeld0
  (try simp only [Act.put, sI3, List.setIfInBounds_toArray, List.set_cons_zero, List.set_cons_succ])
  refine tkE 5 sI5 rfl (by kernel_rfl) (fun K hK => ?_)
  go_simp
  (refine (RSH.out _ (K3.out.trans (by first | assumption | exact Kp.drew _ | exact Kp.refl _))).mono ?_; rintro e w' ⟨rfl, kq⟩; have k2 := Kp.trans (show Kp w3 _ from (by first | assumption | exact Kp.drew _ | exact Kp.refl _)) kq; clear kq)
  (try go_wp2_with fail)
  refine hK.out _ _ ?_ (fun hHeld2 => ?_)
  · (try dsimp only); exact KS.out _ (by first | assumption | exact Kp.drew _ | exact Kp.refl _)
  clear hK K hHeld1
  (try simp only [Act.put, sI5, List.setIfInBounds_toArray, List.set_cons_zero, List.set_cons_succ])
  refine tkW (v := ?_) 6 sI6 rfl (by kernel_rfl) (by kernel_rfl) (by kernel_rfl) (fun _ _ _ h => h) (by rfl) ?_ (by assumption) ?_
  rotate_left
  · intro w hSw; (try dsimp only at hSw); go_simp; (try with_reducible rfl)
  (try simp only [Act.put, sI6, List.setIfInBounds_toArray, List.set_cons_zero, List.set_cons_succ])
  refine tkW (v := ?_) 7 sI7 rfl (by kernel_rfl) (by kernel_rfl) (by kernel_rfl) (fun _ _ _ h => h) (by rfl) ?_ (by assumption) ?_
  rotate_left
  · intro w hSw; (try dsimp only at hSw); go_simp; (try with_reducible rfl)
  (try simp only [Act.put, sI7, List.setIfInBounds_toArray, List.set_cons_zero, List.set_cons_succ])
  refine tkW (v := ?_) 8 sI8 rfl (by kernel_rfl) (by kernel_rfl) (by kernel_rfl) (fun _ _ _ h => h) (by rfl) ?_ (by assumption) ?_
  rotate_left
  · intro w hSw; (try dsimp only at hSw); go_simp; (try with_reducible rfl)
  (try simp only [Act.put, sI8, List.setIfInBounds_toArray, List.set_cons_zero, List.set_cons_succ])
  refine tkW (v := ?_) 9 sI9 rfl (by kernel_rfl) (by kernel_rfl) (by kernel_rfl) (fun _ _ _ h => h) (by rfl) ?_ (by assumption) ?_
  rotate_left
  · intro w hSw; (try dsimp only at hSw); go_simp; (try with_reducible rfl)
  (try simp only [Act.put, sI9, List.setIfInBounds_toArray, List.set_cons_zero, List.set_cons_succ])
  refine tkW (v := ?_) 11 sI11 rfl (by kernel_rfl) (by kernel_rfl) (by kernel_rfl) (fun _ _ _ h => h) (by rfl) ?_ (by assumption) ?_
  rotate_left
  · intro w hSw; (try dsimp only at hSw); go_simp; (try with_reducible rfl)
  (try simp only [Act.put, sI11, List.setIfInBounds_toArray, List.set_cons_zero, List.set_cons_succ])
  refine tkE 10 sI10 rfl (by kernel_rfl) (fun K hK => ?_)
  go_simp
  (refine (TEH.out _ (K3.out.trans (by first | assumption | exact Kp.drew _ | exact Kp.refl _))).mono ?_; rintro e w' ⟨rfl, kq⟩; have k2 := Kp.trans (show Kp w3 _ from (by first | assumption | exact Kp.drew _ | exact Kp.refl _)) kq; clear kq)
  (try go_wp2_with fail)
  refine hK.out _ _ ?_ (fun hHeld3 => ?_)
  · (try dsimp only); exact KS.out _ (by first | assumption | exact Kp.drew _ | exact Kp.refl _)
  clear hK K hHeld2
  (try simp only [Act.put, sI10, List.setIfInBounds_toArray, List.set_cons_zero, List.set_cons_succ])
  refine tkE 12 sI12 rfl (by kernel_rfl) (fun K hK => ?_)
  go_simp
  (refine (REH.out _ (K3.out.trans (by first | assumption | exact Kp.drew _ | exact Kp.refl _))).mono ?_; rintro e w' ⟨rfl, kq⟩; have k2 := Kp.trans (show Kp w3 _ from (by first | assumption | exact Kp.drew _ | exact Kp.refl _)) kq; clear kq)
  (try go_wp2_with fail)
  refine hK.out _ _ ?_ (fun hHeld4 => ?_)
  · (try dsimp only); exact KS.out _ (by first | assumption | exact Kp.drew _ | exact Kp.refl _)
  clear hK K hHeld3
  (try simp only [Act.put, sI12, List.setIfInBounds_toArray, List.set_cons_zero, List.set_cons_succ])
  refine tkW (v := ?_) 13 sI13 rfl (by kernel_rfl) (by kernel_rfl) (by kernel_rfl) (fun _ _ _ h => h) (by rfl) ?_ (by assumption) ?_
  rotate_left
  · intro w hSw; (try dsimp only at hSw); go_simp; (try with_reducible rfl)
  (try simp only [Act.put, sI13, List.setIfInBounds_toArray, List.set_cons_zero, List.set_cons_succ])
  refine tkW (v := ?_) 14 sI14 rfl (by kernel_rfl) (by kernel_rfl) (by kernel_rfl) (fun _ _ _ h => h) (by rfl) ?_ (by assumption) ?_
  rotate_left
  · intro w hSw; (try dsimp only at hSw); go_simp; (try with_reducible rfl)
  (try simp only [Act.put, sI14, List.setIfInBounds_toArray, List.set_cons_zero, List.set_cons_succ])
  refine tkW (v := ?_) 15 sI15 rfl (by kernel_rfl) (by kernel_rfl) (by kernel_rfl) (fun _ _ _ h => h) (by rfl) ?_ (by assumption) ?_
  rotate_left
  · intro w hSw; (try dsimp only at hSw); go_simp; (try with_reducible rfl)
  (try simp only [Act.put, sI15, List.setIfInBounds_toArray, List.set_cons_zero, List.set_cons_succ])
  refine tkW (v := ?_) 16 sI16 rfl (by kernel_rfl) (by kernel_rfl) (by kernel_rfl) (fun _ _ _ h => h) (by rfl) ?_ (by assumption) ?_
  rotate_left
  · intro w hSw; (try dsimp only at hSw); go_simp; (try with_reducible rfl)
  (try simp only [Act.put, sI16, List.setIfInBounds_toArray, List.set_cons_zero, List.set_cons_succ])
  refine tkW (v := ?_) 18 sI18 rfl (by kernel_rfl) (by kernel_rfl) (by kernel_rfl) (fun _ _ _ h => h) (by rfl) ?_ (by assumption) ?_
  rotate_left
  · intro w hSw; (try dsimp only at hSw); go_simp; (try with_reducible rfl)
  (try simp only [Act.put, sI18, List.setIfInBounds_toArray, List.set_cons_zero, List.set_cons_succ])
  refine tkE 17 sI17 rfl (by kernel_rfl) (fun K hK => ?_)
  go_simp
  (refine (TCH.out _ (K3.out.trans (by first | assumption | exact Kp.drew _ | exact Kp.refl _))).mono ?_; rintro e w' ⟨rfl, kq⟩; have k2 := Kp.trans (show Kp w3 _ from (by first | assumption | exact Kp.drew _ | exact Kp.refl _)) kq; clear kq)
  (try go_wp2_with fail)
  refine hK.out _ _ ?_ (fun hHeld5 => ?_)
  · (try dsimp only); exact KS.out _ (by first | assumption | exact Kp.drew _ | exact Kp.refl _)
  clear hK K hHeld4
  (try simp only [Act.put, sI17, List.setIfInBounds_toArray, List.set_cons_zero, List.set_cons_succ])
  refine tkE 19 sI19 rfl (by kernel_rfl) (fun K hK => ?_)
  go_simp
  (refine (RCH.out _ (K3.out.trans (by first | assumption | exact Kp.drew _ | exact Kp.refl _))).mono ?_; rintro e w' ⟨rfl, kq⟩; have k2 := Kp.trans (show Kp w3 _ from (by first | assumption | exact Kp.drew _ | exact Kp.refl _)) kq; clear kq)
  (try go_wp2_with fail)
  refine hK.out _ _ ?_ (fun hHeld6 => ?_)
  · (try dsimp only); exact KS.out _ (by first | assumption | exact Kp.drew _ | exact Kp.refl _)
  clear hK K hHeld5
  (try simp only [Act.put, sI19, List.setIfInBounds_toArray, List.set_cons_zero, List.set_cons_succ])
  refine tkW (v := ?_) 20 sI20 rfl (by kernel_rfl) (by kernel_rfl) (by kernel_rfl) (fun _ _ _ h => h) (by rfl) ?_ (by assumption) ?_
  rotate_left
  · intro w hSw; (try dsimp only at hSw); go_simp; (try with_reducible rfl)
  (try simp only [Act.put, sI20, List.setIfInBounds_toArray, List.set_cons_zero, List.set_cons_succ])
  refine tkW (v := ?_) 21 sI21 rfl (by kernel_rfl) (by kernel_rfl) (by kernel_rfl) (fun _ _ _ h => h) (by rfl) ?_ (by assumption) ?_
  rotate_left
  · intro w hSw; (try dsimp only at hSw); go_simp; (try with_reducible rfl)
  (try simp only [Act.put, sI21, List.setIfInBounds_toArray, List.set_cons_zero, List.set_cons_succ])
  refine tkW (v := ?_) 22 sI22 rfl (by kernel_rfl) (by kernel_rfl) (by kernel_rfl) (fun _ _ _ h => h) (by rfl) ?_ (by assumption) ?_
  rotate_left
  · intro w hSw; (try dsimp only at hSw); go_simp; (try with_reducible rfl)
  (try simp only [Act.put, sI22, List.setIfInBounds_toArray, List.set_cons_zero, List.set_cons_succ])
  refine tkW (v := ?_) 23 sI23 rfl (by kernel_rfl) (by kernel_rfl) (by kernel_rfl) (fun _ _ _ h => h) (by rfl) ?_ (by assumption) ?_
  rotate_left
  · intro w hSw; (try dsimp only at hSw); go_simp; (try with_reducible rfl)
  (try simp only [Act.put, sI23, List.setIfInBounds_toArray, List.set_cons_zero, List.set_cons_succ])
  refine tkW (v := ?_) 25 sI25 rfl (by kernel_rfl) (by kernel_rfl) (by kernel_rfl) (fun _ _ _ h => h) (by rfl) ?_ (by assumption) ?_
  rotate_left
  · intro w hSw; (try dsimp only at hSw); go_simp; (try with_reducible rfl)
  (try simp only [Act.put, sI25, List.setIfInBounds_toArray, List.set_cons_zero, List.set_cons_succ])
  refine tkE 24 sI24 rfl (by kernel_rfl) (fun K hK => ?_)
  go_simp
  (refine (TDH.out _ (K3.out.trans (by first | assumption | exact Kp.drew _ | exact Kp.refl _))).mono ?_; rintro e w' ⟨rfl, kq⟩; have k2 := Kp.trans (show Kp w3 _ from (by first | assumption | exact Kp.drew _ | exact Kp.refl _)) kq; clear kq)
  (try go_wp2_with fail)
  refine hK.out _ _ ?_ (fun hHeld7 => ?_)
  · (try dsimp only); exact KS.out _ (by first | assumption | exact Kp.drew _ | exact Kp.refl _)
  clear hK K hHeld6
  (try simp only [Act.put, sI24, List.setIfInBounds_toArray, List.set_cons_zero, List.set_cons_succ])
  refine tkE 26 sI26 rfl (by kernel_rfl) (fun K hK => ?_)
  go_simp
  (refine (RDH.out _ (K3.out.trans (by first | assumption | exact Kp.drew _ | exact Kp.refl _))).mono ?_; rintro e w' ⟨rfl, kq⟩; have k2 := Kp.trans (show Kp w3 _ from (by first | assumption | exact Kp.drew _ | exact Kp.refl _)) kq; clear kq)
  (try go_wp2_with fail)
  refine hK.out _ _ ?_ (fun hHeld8 => ?_)
  · (try dsimp only); exact KS.out _ (by first | assumption | exact Kp.drew _ | exact Kp.refl _)
  clear hK K hHeld7
  (try simp only [Act.put, sI26, List.setIfInBounds_toArray, List.set_cons_zero, List.set_cons_succ])
  refine tkW (v := ?_) 27 sI27 rfl (by kernel_rfl) (by kernel_rfl) (by kernel_rfl) (fun _ _ _ h => h) (by rfl) ?_ (by assumption) ?_
  rotate_left
  · intro w hSw; (try dsimp only at hSw); go_simp; (try with_reducible rfl)
  (try simp only [Act.put, sI27, List.setIfInBounds_toArray, List.set_cons_zero, List.set_cons_succ])
  refine tkW (v := ?_) 28 sI28 rfl (by kernel_rfl) (by kernel_rfl) (by kernel_rfl) (fun _ _ _ h => h) (by rfl) ?_ (by assumption) ?_
  rotate_left
  · intro w hSw; (try dsimp only at hSw); go_simp; (try with_reducible rfl)
  (try simp only [Act.put, sI28, List.setIfInBounds_toArray, List.set_cons_zero, List.set_cons_succ])
  refine tkW (v := ?_) 29 sI29 rfl (by kernel_rfl) (by kernel_rfl) (by kernel_rfl) (fun _ _ _ h => h) (by rfl) ?_ (by assumption) ?_
  rotate_left
  · intro w hSw; (try dsimp only at hSw); go_simp; (try with_reducible rfl)
  (try simp only [Act.put, sI29, List.setIfInBounds_toArray, List.set_cons_zero, List.set_cons_succ])
  refine tkW (v := ?_) 30 sI30 rfl (by kernel_rfl) (by kernel_rfl) (by kernel_rfl) (fun _ _ _ h => h) (by rfl) ?_ (by assumption) ?_
  rotate_left
  · intro w hSw; (try dsimp only at hSw); go_simp; (try with_reducible rfl)
  (try simp only [Act.put, sI30, List.setIfInBounds_toArray, List.set_cons_zero, List.set_cons_succ])
  refine tkW (v := ?_) 31 sI31 rfl (by kernel_rfl) (by kernel_rfl) (by kernel_rfl) (fun _ _ _ h => h) (by rfl) ?_ (by assumption) ?_
  rotate_left
  · intro w hSw; (try dsimp only at hSw); go_simp; (try with_reducible rfl)
  (try simp only [Act.put, sI31, List.setIfInBounds_toArray, List.set_cons_zero, List.set_cons_succ])
  refine tkW (v := ?_) 33 sI33 rfl (by kernel_rfl) (by kernel_rfl) (by kernel_rfl) (fun _ _ _ h => h) (by rfl) ?_ (by assumption) ?_
  rotate_left
  · intro w hSw; (try dsimp only at hSw); go_simp; (try with_reducible rfl)
  (try simp only [Act.put, sI33, List.setIfInBounds_toArray, List.set_cons_zero, List.set_cons_succ])
  refine tkW (v := ?_) 34 sI34 rfl (by kernel_rfl) (by kernel_rfl) (by kernel_rfl) (fun _ _ _ h => h) (by rfl) ?_ (by assumption) ?_
  rotate_left
  · intro w hSw; (try dsimp only at hSw); go_simp; (try with_reducible rfl)
  (try simp only [Act.put, sI34, List.setIfInBounds_toArray, List.set_cons_zero, List.set_cons_succ])
  refine tkE 32 sI32 rfl (by kernel_rfl) (fun K hK => ?_)
  go_simp
  (refine (TMH.out _ (K3.out.trans (by first | assumption | exact Kp.drew _ | exact Kp.refl _))).mono ?_; rintro e w' ⟨rfl, kq⟩; have k2 := Kp.trans (show Kp w3 _ from (by first | assumption | exact Kp.drew _ | exact Kp.refl _)) kq; clear kq)
  (try go_wp2_with fail)
  refine hK.out _ _ ?_ (fun hHeld9 => ?_)
  · (try dsimp only); exact KS.out _ (by first | assumption | exact Kp.drew _ | exact Kp.refl _)
  clear hK K hHeld8
  (try simp only [Act.put, sI32, List.setIfInBounds_toArray, List.set_cons_zero, List.set_cons_succ])
  refine tkE 35 sI35 rfl (by kernel_rfl) (fun K hK => ?_)
  go_simp
  (refine (RMH.out _ (K3.out.trans (by first | assumption | exact Kp.drew _ | exact Kp.refl _))).mono ?_; rintro e w' ⟨rfl, kq⟩; have k2 := Kp.trans (show Kp w3 _ from (by first | assumption | exact Kp.drew _ | exact Kp.refl _)) kq; clear kq)
  (try go_wp2_with fail)
  refine hK.out _ _ ?_ (fun hHeld10 => ?_)
  · (try dsimp only); exact KS.out _ (by first | assumption | exact Kp.drew _ | exact Kp.refl _)
  clear hK K hHeld9
  (try simp only [Act.put, sI35, List.setIfInBounds_toArray, List.set_cons_zero, List.set_cons_succ])
  refine tkW (v := ?_) 36 sI36 rfl (by kernel_rfl) (by kernel_rfl) (by kernel_rfl) (fun _ _ _ h => h) (by rfl) ?_ (by assumption) ?_
  rotate_left
  · intro w hSw; (try dsimp only at hSw); go_simp; (try with_reducible rfl)
  (try simp only [Act.put, sI36, List.setIfInBounds_toArray, List.set_cons_zero, List.set_cons_succ])
  refine tkW (v := ?_) 37 sI37 rfl (by kernel_rfl) (by kernel_rfl) (by kernel_rfl) (fun _ _ _ h => h) (by rfl) ?_ (by assumption) ?_
  rotate_left
  · intro w hSw; (try dsimp only at hSw); go_simp; (try with_reducible rfl)
  (try simp only [Act.put, sI37, List.setIfInBounds_toArray, List.set_cons_zero, List.set_cons_succ])
  refine tkW (v := ?_) 38 sI38 rfl (by kernel_rfl) (by kernel_rfl) (by kernel_rfl) (fun _ _ _ h => h) (by rfl) ?_ (by assumption) ?_
  rotate_left
  · intro w hSw; (try dsimp only at hSw); go_simp; (try with_reducible rfl)
  (try simp only [Act.put, sI38, List.setIfInBounds_toArray, List.set_cons_zero, List.set_cons_succ])
  refine tkW (v := ?_) 39 sI39 rfl (by kernel_rfl) (by kernel_rfl) (by kernel_rfl) (fun _ _ _ h => h) (by rfl) ?_ (by assumption) ?_
  rotate_left
  · intro w hSw; (try dsimp only at hSw); go_simp; (try with_reducible rfl)
  (try simp only [Act.put, sI39, List.setIfInBounds_toArray, List.set_cons_zero, List.set_cons_succ])
  refine tkW (v := ?_) 40 sI40 rfl (by kernel_rfl) (by kernel_rfl) (by kernel_rfl) (fun _ _ _ h => h) (by rfl) ?_ (by assumption) ?_
  rotate_left
  · intro w hSw; (try dsimp only at hSw); go_simp; (try with_reducible rfl)
  (try simp only [Act.put, sI40, List.setIfInBounds_toArray, List.set_cons_zero, List.set_cons_succ])
  refine tkE 41 sI41 rfl (by kernel_rfl) (fun K hK => ?_)
  go_simp
  (refine (TIH.out _ (K3.out.trans (by first | assumption | exact Kp.drew _ | exact Kp.refl _))).mono ?_; rintro e w' ⟨rfl, kq⟩; have k2 := Kp.trans (show Kp w3 _ from (by first | assumption | exact Kp.drew _ | exact Kp.refl _)) kq; clear kq)
  (try go_wp2_with fail)
  refine hK.out _ _ ?_ (fun hHeld11 => ?_)
  · (try dsimp only); exact KS.out _ (by first | assumption | exact Kp.drew _ | exact Kp.refl _)
  clear hK K hHeld10
  (try simp only [Act.put, sI41, List.setIfInBounds_toArray, List.set_cons_zero, List.set_cons_succ])
  refine tkW (v := ?_) 42 sI42 rfl (by kernel_rfl) (by kernel_rfl) (by kernel_rfl) (fun _ _ _ h => h) (by rfl) ?_ (by assumption) ?_
  rotate_left
  · intro w hSw; (try dsimp only at hSw); go_simp; (try with_reducible rfl)
  (try simp only [Act.put, sI42, List.setIfInBounds_toArray, List.set_cons_zero, List.set_cons_succ])
  refine tkW (v := ?_) 43 sI43 rfl (by kernel_rfl) (by kernel_rfl) (by kernel_rfl) (fun _ _ _ h => h) (by rfl) ?_ (by assumption) ?_
  rotate_left
  · intro w hSw; (try dsimp only at hSw); go_simp; (try with_reducible rfl)
  (try simp only [Act.put, sI43, List.setIfInBounds_toArray, List.set_cons_zero, List.set_cons_succ])
  refine wpAnyH_done (by kernel_rfl) ?_ _
  have KE := K3.out.trans k2
  go_wp2
  go_ret
  exact ⟨rfl, KE⟩
theorem treeIs_walk (n m : ND) (u v : Value) (w : World) (hu : NodesAt w u n.l) (hv : NodesAt w v m.l) (bn : wgtN n ≤ 1048576) (bm : wgtN m ≤ 1048576) (T : TabSH w) :
    Calls Tryd.prog 5 #[ndV n u, ndV m v] w fun e w' => e = .returned (.bool true) ∧ Kp w w' := by
  have cn := cntL_of_wgt bn
  have cm := cntL_of_wgt bm
  obtain ⟨ad, cp, rfl⟩ := hu.slice
  obtain ⟨ad', cp', rfl⟩ := hv.slice
  obtain ⟨k, pk, y, q, d, a, t, l, rfl⟩ := nd_dest n
  obtain ⟨k', pk', y', q', d', a', t', l', rfl⟩ := nd_dest m
  rcases Bool.eq_false_or_eq_true (fewN (.mk k ⟨pk, y, q, d⟩ a t l)) with f1 | f1
  rotate_left
  · exact treeIs_no1 k pk y q d a t l ad cp k' pk' y' q' d' a' t' l' ad' cp' w hu hv cn cm T f1
  rcases Bool.eq_false_or_eq_true (fewN (.mk k' ⟨pk', y', q', d'⟩ a' t' l')) with f2 | f2
  rotate_left
  · exact treeIs_no2 k pk y q d a t l ad cp k' pk' y' q' d' a' t' l' ad' cp' w hu hv cn cm T f1 f2
  exact treeIs_yes k pk y q d a t l ad cp k' pk' y' q' d' a' t' l' ad' cp' w hu hv cn cm T f1 f2
end Go.Proofs.YtjiikianmjmgcaaDoor
