/-
  Layer 14: the walk of LeafPairs.
-/
import Derived.Test.YtbahhgpaafgpoaaDoorGLeafB
import Derived.Test.YtbahhgpaafgpoaaDoorGLeafA
import Derived.LoopTactic
namespace Go.Proofs.YtbahhgpaafgpoaaDoor
open Go.RowKit
set_option linter.unusedVariables false
set_option linter.unusedSimpArgs false
def ltB (a b : R) : Bool := decide (a.1 < b.1) || ((a.1 == b.1) && decide (a.2 < b.2))
theorem ltB_iff (a b : R) : ltB a b = true ↔ ltP a b := by
  unfold ltB ltP
  simp
theorem less_any (a b : R) (w : World) : Calls Tryd.prog 13 #[.agg #[.int .i64 a.1, .int .i64 a.2], .agg #[.int .i64 b.1, .int .i64 b.2]] w fun e w' => e = .returned (.bool (ltB a b)) ∧ Kp w w' := by
  obtain ⟨x, y⟩ := a
  obtain ⟨u, v⟩ := b
  rw [show ltB (x, y) (u, v) = (decide (x < u) || ((x == u) && decide (y < v))) from rfl]
  simp only
  obtain ⟨p, hp⟩ : ∃ p, decide (x < u) = p := ⟨_, rfl⟩
  obtain ⟨q, hq⟩ : ∃ q, (x == u) = q := ⟨_, rfl⟩
  rw [hp, hq]
  cases p <;> cases q
  all_goals
    go_enter Tryd.func13, Tryd.ntmps13
    go_wp2
    go_ret
    exact ⟨by simp, (by first | with_reducible exact Kp.refl _ | with_reducible exact Kp.alloc _ _ | with_reducible exact (Kp.alloc _ _).trans (Kp.alloc _ _) | with_reducible exact ((Kp.alloc _ _).trans (Kp.alloc _ _)).trans (Kp.alloc _ _) | with_reducible exact Kp.drew _ | with_reducible exact Kp.drewN _ _)⟩
/-- is it one of the first? -/
def inP (P : List R) (p : R) (k : Nat) : Bool := decide (p ∈ P.take k)
theorem inP_next {P : List R} {p : R} {k : Nat} (h : k < P.length) : inP P p (k + 1) = (inP P p k || (((at_ P k).1 == p.1) && ((at_ P k).2 == p.2))) := by
  unfold inP
  refine bool_iff ?_
  rw [decide_eq_true_iff, mem_next h, Bool.or_eq_true, decide_eq_true_iff, Bool.and_eq_true, beq_iff_eq, beq_iff_eq, Prod.ext_iff]
theorem pairs_end {F : Fam} (h : FOK F) (p : R) : (inP ((pairsF F).take 1000) p ((pairsF F).take 1000).length = true → hasF F p.1 p.2 = true) ∧
    (inP ((pairsF F).take 1000) p ((pairsF F).take 1000).length = false → hasF F p.1 p.2 = true → ((pairsF F).take 1000).length = 1000 ∧ ltB (at_ ((pairsF F).take 1000) 999) p = true) := by
  unfold inP
  rw [List.take_length]
  constructor
  · intro g
    exact (mem_pairs h p.1 p.2).1 (List.mem_of_mem_take (of_decide_eq_true g))
  · intro g k
    have := pairs_behind h k (of_decide_eq_false g)
    exact ⟨this.1, (ltB_iff _ _).2 this.2⟩
theorem pairs_zero (f : LF) (va vb : Value) (w : World) (h : LeafOk w f va vb) (T : Tabs w) :
    Calls Tryd.prog 11 #[leafV f va vb, .int .i64 0] w fun e w' => ∃ ad c, e = .returned (.slice ad 0 c) ∧ Kp w w' := by
  refine (leafPairs_any f va vb 0 w h T).mono ?_
  rintro e w' ⟨v, rfl, own, k⟩
  rw [show (min 0 1000 : Int).toNat = 0 by decide, List.take_zero] at own
  obtain ⟨ad, c, rfl⟩ := own_slice own
  exact ⟨ad, c, rfl, k⟩
abbrev pA0 : Oper := { dst := some 22, op := Go.Op.load 24 (Go.Operand.tmp 2), type := 24, pos := "law.go:46", after := #[], guard := none }
abbrev pA1 : Oper := { dst := some 23, op := Go.Op.move (Go.Operand.tmp 6), type := 29, pos := "law.go:46", after := #[], guard := none }
abbrev pA2 : Oper := { dst := some 24, op := Go.Op.move (Go.Operand.tmp 8), type := 3, pos := "law.go:46", after := #[], guard := none }
abbrev pA3 : Oper := { dst := some 25, op := Go.Op.indexAddr 29 (Go.Operand.tmp 23) (Go.Operand.tmp 24), type := 0, pos := "law.go:46", after := #[{ on := 1, ground := Go.Ground.data }, { on := 2, ground := Go.Ground.data }], guard := none }
abbrev pA4 : Oper := { dst := some 26, op := Go.Op.load 26 (Go.Operand.tmp 25), type := 26, pos := "law.go:46", after := #[{ on := 3, ground := Go.Ground.data }], guard := none }
abbrev pA5 : Oper := { dst := some 27, op := Go.Op.call { callee := Go.Callee.value (Go.Operand.func 12), args := #[Go.Operand.tmp 22, Go.Operand.tmp 26], argTypes := #[24, 26] }, type := 4, pos := "law.go:46", after := #[{ on := 0, ground := Go.Ground.data }, { on := 4, ground := Go.Ground.data }], guard := none }
abbrev pA6 : Oper := { dst := some 28, op := Go.Op.unOp Go.UnOp.not 4 (Go.Operand.tmp 27), type := 4, pos := "law.go:46", after := #[{ on := 5, ground := Go.Ground.data }], guard := none }
abbrev pA7 : Oper := { dst := some 29, op := Go.Op.move (Go.Operand.tmp 28), type := 4, pos := "law.go:46", after := #[{ on := 6, ground := Go.Ground.data }, { on := 5, ground := Go.Ground.chain }], guard := none }
abbrev pA8 : Oper := { dst := some 30, op := Go.Op.move (Go.Operand.tmp 6), type := 29, pos := "law.go:46", after := #[{ on := 7, ground := Go.Ground.guard }], guard := some (7, false) }
abbrev pA9 : Oper := { dst := some 31, op := Go.Op.move (Go.Operand.tmp 8), type := 3, pos := "law.go:46", after := #[{ on := 7, ground := Go.Ground.guard }], guard := some (7, false) }
abbrev pA10 : Oper := { dst := some 32, op := Go.Op.indexAddr 29 (Go.Operand.tmp 30) (Go.Operand.tmp 31), type := 0, pos := "law.go:46", after := #[{ on := 8, ground := Go.Ground.data }, { on := 9, ground := Go.Ground.data }, { on := 7, ground := Go.Ground.guard }], guard := some (7, false) }
abbrev pA11 : Oper := { dst := some 33, op := Go.Op.fieldAddr 26 (Go.Operand.tmp 32) 0, type := 0, pos := "law.go:46", after := #[{ on := 10, ground := Go.Ground.data }, { on := 7, ground := Go.Ground.guard }], guard := some (7, false) }
abbrev pA12 : Oper := { dst := some 34, op := Go.Op.load 3 (Go.Operand.tmp 33), type := 3, pos := "law.go:46", after := #[{ on := 11, ground := Go.Ground.data }, { on := 7, ground := Go.Ground.guard }], guard := some (7, false) }
abbrev pA13 : Oper := { dst := some 35, op := Go.Op.move (Go.Operand.tmp 6), type := 29, pos := "law.go:46", after := #[{ on := 7, ground := Go.Ground.guard }], guard := some (7, false) }
abbrev pA14 : Oper := { dst := some 36, op := Go.Op.move (Go.Operand.tmp 8), type := 3, pos := "law.go:46", after := #[{ on := 7, ground := Go.Ground.guard }], guard := some (7, false) }
abbrev pA15 : Oper := { dst := some 37, op := Go.Op.indexAddr 29 (Go.Operand.tmp 35) (Go.Operand.tmp 36), type := 0, pos := "law.go:46", after := #[{ on := 13, ground := Go.Ground.data }, { on := 14, ground := Go.Ground.data }, { on := 7, ground := Go.Ground.guard }], guard := some (7, false) }
abbrev pA16 : Oper := { dst := some 38, op := Go.Op.fieldAddr 26 (Go.Operand.tmp 37) 1, type := 0, pos := "law.go:46", after := #[{ on := 15, ground := Go.Ground.data }, { on := 7, ground := Go.Ground.guard }], guard := some (7, false) }
abbrev pA17 : Oper := { dst := some 39, op := Go.Op.load 3 (Go.Operand.tmp 38), type := 3, pos := "law.go:46", after := #[{ on := 16, ground := Go.Ground.data }, { on := 7, ground := Go.Ground.guard }], guard := some (7, false) }
abbrev pA18 : Oper := { dst := some 40, op := Go.Op.binOp Go.BinOp.gtr 3 (Go.Operand.tmp 34) (Go.Operand.tmp 39) 3, type := 4, pos := "law.go:46", after := #[{ on := 12, ground := Go.Ground.data }, { on := 17, ground := Go.Ground.data }, { on := 7, ground := Go.Ground.guard }], guard := some (7, false) }
abbrev pA19 : Oper := { dst := some 41, op := Go.Op.pick (Go.Operand.tmp 29) (Go.Operand.const (Go.Value.bool true)) (Go.Operand.tmp 40), type := 4, pos := "law.go:46", after := #[{ on := 7, ground := Go.Ground.data }, { on := 18, ground := Go.Ground.data }], guard := none }
abbrev pA20 : Oper := { dst := some 42, op := Go.Op.move (Go.Operand.tmp 41), type := 4, pos := "law.go:46", after := #[{ on := 19, ground := Go.Ground.data }, { on := 7, ground := Go.Ground.chain }], guard := none }
abbrev pA21 : Oper := { dst := some 43, op := Go.Op.move (Go.Operand.tmp 8), type := 3, pos := "law.go:46", after := #[{ on := 20, ground := Go.Ground.guard }], guard := some (20, false) }
abbrev pA22 : Oper := { dst := some 44, op := Go.Op.binOp Go.BinOp.gtr 3 (Go.Operand.tmp 43) (Go.Operand.const (Go.Value.int Go.IntKind.i64 0)) 3, type := 4, pos := "law.go:46", after := #[{ on := 21, ground := Go.Ground.data }, { on := 20, ground := Go.Ground.guard }], guard := some (20, false) }
abbrev pA23 : Oper := { dst := some 45, op := Go.Op.move (Go.Operand.tmp 44), type := 4, pos := "law.go:46", after := #[{ on := 22, ground := Go.Ground.data }, { on := 20, ground := Go.Ground.chain }, { on := 20, ground := Go.Ground.guard }], guard := some (20, false) }
abbrev pA24 : Oper := { dst := some 46, op := Go.Op.move (Go.Operand.tmp 6), type := 29, pos := "law.go:46", after := #[{ on := 23, ground := Go.Ground.guard }], guard := some (23, true) }
abbrev pA25 : Oper := { dst := some 47, op := Go.Op.move (Go.Operand.tmp 8), type := 3, pos := "law.go:46", after := #[{ on := 23, ground := Go.Ground.guard }], guard := some (23, true) }
abbrev pA26 : Oper := { dst := some 48, op := Go.Op.binOp Go.BinOp.sub 3 (Go.Operand.tmp 47) (Go.Operand.const (Go.Value.int Go.IntKind.i64 1)) 3, type := 3, pos := "law.go:46", after := #[{ on := 25, ground := Go.Ground.data }, { on := 23, ground := Go.Ground.guard }], guard := some (23, true) }
abbrev pA27 : Oper := { dst := some 49, op := Go.Op.indexAddr 29 (Go.Operand.tmp 46) (Go.Operand.tmp 48), type := 0, pos := "law.go:46", after := #[{ on := 24, ground := Go.Ground.data }, { on := 26, ground := Go.Ground.data }, { on := 23, ground := Go.Ground.guard }], guard := some (23, true) }
abbrev pA28 : Oper := { dst := some 50, op := Go.Op.load 26 (Go.Operand.tmp 49), type := 26, pos := "law.go:46", after := #[{ on := 27, ground := Go.Ground.data }, { on := 23, ground := Go.Ground.guard }], guard := some (23, true) }
abbrev pA29 : Oper := { dst := some 51, op := Go.Op.move (Go.Operand.tmp 6), type := 29, pos := "law.go:46", after := #[{ on := 23, ground := Go.Ground.guard }], guard := some (23, true) }
abbrev pA30 : Oper := { dst := some 52, op := Go.Op.move (Go.Operand.tmp 8), type := 3, pos := "law.go:46", after := #[{ on := 23, ground := Go.Ground.guard }], guard := some (23, true) }
abbrev pA31 : Oper := { dst := some 53, op := Go.Op.indexAddr 29 (Go.Operand.tmp 51) (Go.Operand.tmp 52), type := 0, pos := "law.go:46", after := #[{ on := 29, ground := Go.Ground.data }, { on := 30, ground := Go.Ground.data }, { on := 23, ground := Go.Ground.guard }], guard := some (23, true) }
abbrev pA32 : Oper := { dst := some 54, op := Go.Op.load 26 (Go.Operand.tmp 53), type := 26, pos := "law.go:46", after := #[{ on := 31, ground := Go.Ground.data }, { on := 23, ground := Go.Ground.guard }], guard := some (23, true) }
abbrev pA33 : Oper := { dst := some 55, op := Go.Op.call { callee := Go.Callee.value (Go.Operand.func 13), args := #[Go.Operand.tmp 50, Go.Operand.tmp 54], argTypes := #[26, 26] }, type := 4, pos := "law.go:46", after := #[{ on := 28, ground := Go.Ground.data }, { on := 32, ground := Go.Ground.data }, { on := 23, ground := Go.Ground.chain }, { on := 23, ground := Go.Ground.guard }], guard := some (23, true) }
abbrev pA34 : Oper := { dst := some 56, op := Go.Op.unOp Go.UnOp.not 4 (Go.Operand.tmp 55), type := 4, pos := "law.go:46", after := #[{ on := 33, ground := Go.Ground.data }, { on := 23, ground := Go.Ground.guard }], guard := some (23, true) }
abbrev pA35 : Oper := { dst := some 57, op := Go.Op.pick (Go.Operand.tmp 45) (Go.Operand.tmp 56) (Go.Operand.const (Go.Value.bool false)), type := 4, pos := "law.go:46", after := #[{ on := 23, ground := Go.Ground.data }, { on := 34, ground := Go.Ground.data }, { on := 20, ground := Go.Ground.guard }], guard := some (20, false) }
abbrev pA36 : Oper := { dst := some 58, op := Go.Op.pick (Go.Operand.tmp 42) (Go.Operand.const (Go.Value.bool true)) (Go.Operand.tmp 57), type := 4, pos := "law.go:46", after := #[{ on := 20, ground := Go.Ground.data }, { on := 35, ground := Go.Ground.data }], guard := none }
abbrev pB0 : Oper := { dst := some 59, op := Go.Op.move (Go.Operand.tmp 7), type := 4, pos := "law.go:49", after := #[], guard := none }
abbrev pB1 : Oper := { dst := some 60, op := Go.Op.move (Go.Operand.tmp 59), type := 4, pos := "law.go:49", after := #[{ on := 0, ground := Go.Ground.data }], guard := none }
abbrev pB2 : Oper := { dst := some 61, op := Go.Op.move (Go.Operand.tmp 6), type := 29, pos := "law.go:49", after := #[{ on := 1, ground := Go.Ground.guard }], guard := some (1, false) }
abbrev pB3 : Oper := { dst := some 62, op := Go.Op.move (Go.Operand.tmp 8), type := 3, pos := "law.go:49", after := #[{ on := 1, ground := Go.Ground.guard }], guard := some (1, false) }
abbrev pB4 : Oper := { dst := some 63, op := Go.Op.indexAddr 29 (Go.Operand.tmp 61) (Go.Operand.tmp 62), type := 0, pos := "law.go:49", after := #[{ on := 2, ground := Go.Ground.data }, { on := 3, ground := Go.Ground.data }, { on := 1, ground := Go.Ground.guard }], guard := some (1, false) }
abbrev pB5 : Oper := { dst := some 64, op := Go.Op.load 26 (Go.Operand.tmp 63), type := 26, pos := "law.go:49", after := #[{ on := 4, ground := Go.Ground.data }, { on := 1, ground := Go.Ground.guard }], guard := some (1, false) }
abbrev pB6 : Oper := { dst := some 65, op := Go.Op.load 26 (Go.Operand.tmp 3), type := 26, pos := "law.go:49", after := #[{ on := 1, ground := Go.Ground.guard }], guard := some (1, false) }
abbrev pB7 : Oper := { dst := some 66, op := Go.Op.binOp Go.BinOp.eql 26 (Go.Operand.tmp 64) (Go.Operand.tmp 65) 26, type := 4, pos := "law.go:49", after := #[{ on := 5, ground := Go.Ground.data }, { on := 6, ground := Go.Ground.data }, { on := 1, ground := Go.Ground.guard }], guard := some (1, false) }
abbrev pB8 : Oper := { dst := some 67, op := Go.Op.pick (Go.Operand.tmp 60) (Go.Operand.const (Go.Value.bool true)) (Go.Operand.tmp 66), type := 4, pos := "law.go:49", after := #[{ on := 1, ground := Go.Ground.data }, { on := 7, ground := Go.Ground.data }], guard := none }
abbrev pB9 : Oper := { dst := some 7, op := Go.Op.assign (Go.Operand.tmp 67), type := 4, pos := "law.go:49", after := #[{ on := 8, ground := Go.Ground.data }, { on := 1, ground := Go.Ground.chain }, { on := 0, ground := Go.Ground.phase }, { on := 1, ground := Go.Ground.phase }, { on := 2, ground := Go.Ground.phase }, { on := 3, ground := Go.Ground.phase }, { on := 4, ground := Go.Ground.phase }, { on := 5, ground := Go.Ground.phase }, { on := 6, ground := Go.Ground.phase }, { on := 7, ground := Go.Ground.phase }, { on := 8, ground := Go.Ground.phase }], guard := none }
abbrev pC0 : Oper := { dst := some 79, op := Go.Op.move (Go.Operand.tmp 5), type := 4, pos := "law.go:54", after := #[], guard := none }
abbrev pC1 : Oper := { dst := some 80, op := Go.Op.move (Go.Operand.tmp 79), type := 4, pos := "law.go:54", after := #[{ on := 0, ground := Go.Ground.data }], guard := none }
abbrev pC2 : Oper := { dst := some 81, op := Go.Op.load 24 (Go.Operand.tmp 2), type := 24, pos := "law.go:54", after := #[{ on := 1, ground := Go.Ground.guard }], guard := some (1, true) }
abbrev pC3 : Oper := { dst := some 82, op := Go.Op.load 26 (Go.Operand.tmp 3), type := 26, pos := "law.go:54", after := #[{ on := 1, ground := Go.Ground.guard }], guard := some (1, true) }
abbrev pC4 : Oper := { dst := some 83, op := Go.Op.call { callee := Go.Callee.value (Go.Operand.func 12), args := #[Go.Operand.tmp 81, Go.Operand.tmp 82], argTypes := #[24, 26] }, type := 4, pos := "law.go:54", after := #[{ on := 2, ground := Go.Ground.data }, { on := 3, ground := Go.Ground.data }, { on := 1, ground := Go.Ground.chain }, { on := 1, ground := Go.Ground.guard }], guard := some (1, true) }
abbrev pC5 : Oper := { dst := some 84, op := Go.Op.move (Go.Operand.tmp 7), type := 4, pos := "law.go:54", after := #[{ on := 1, ground := Go.Ground.guard }], guard := some (1, true) }
abbrev pC6 : Oper := { dst := some 85, op := Go.Op.move (Go.Operand.tmp 84), type := 4, pos := "law.go:54", after := #[{ on := 5, ground := Go.Ground.data }, { on := 4, ground := Go.Ground.chain }, { on := 1, ground := Go.Ground.guard }], guard := some (1, true) }
abbrev pC7 : Oper := { dst := some 86, op := Go.Op.move (Go.Operand.tmp 6), type := 29, pos := "law.go:54", after := #[{ on := 6, ground := Go.Ground.guard }], guard := some (6, false) }
abbrev pC8 : Oper := { dst := some 87, op := Go.Op.call { callee := Go.Callee.builtin Go.Builtin.len, args := #[Go.Operand.tmp 86], argTypes := #[29] }, type := 3, pos := "law.go:54", after := #[{ on := 7, ground := Go.Ground.data }, { on := 6, ground := Go.Ground.guard }], guard := some (6, false) }
abbrev pC9 : Oper := { dst := some 88, op := Go.Op.binOp Go.BinOp.eql 3 (Go.Operand.tmp 87) (Go.Operand.const (Go.Value.int Go.IntKind.i64 1000)) 3, type := 4, pos := "law.go:54", after := #[{ on := 8, ground := Go.Ground.data }, { on := 6, ground := Go.Ground.guard }], guard := some (6, false) }
abbrev pC10 : Oper := { dst := some 89, op := Go.Op.move (Go.Operand.tmp 88), type := 4, pos := "law.go:54", after := #[{ on := 9, ground := Go.Ground.data }, { on := 6, ground := Go.Ground.chain }, { on := 6, ground := Go.Ground.guard }], guard := some (6, false) }
abbrev pC11 : Oper := { dst := some 90, op := Go.Op.move (Go.Operand.tmp 6), type := 29, pos := "law.go:54", after := #[{ on := 10, ground := Go.Ground.guard }], guard := some (10, true) }
abbrev pC12 : Oper := { dst := some 91, op := Go.Op.indexAddr 29 (Go.Operand.tmp 90) (Go.Operand.const (Go.Value.int Go.IntKind.i64 999)), type := 0, pos := "law.go:54", after := #[{ on := 11, ground := Go.Ground.data }, { on := 10, ground := Go.Ground.guard }], guard := some (10, true) }
abbrev pC13 : Oper := { dst := some 92, op := Go.Op.load 26 (Go.Operand.tmp 91), type := 26, pos := "law.go:54", after := #[{ on := 12, ground := Go.Ground.data }, { on := 10, ground := Go.Ground.guard }], guard := some (10, true) }
abbrev pC14 : Oper := { dst := some 93, op := Go.Op.load 26 (Go.Operand.tmp 3), type := 26, pos := "law.go:54", after := #[{ on := 10, ground := Go.Ground.guard }], guard := some (10, true) }
abbrev pC15 : Oper := { dst := some 94, op := Go.Op.call { callee := Go.Callee.value (Go.Operand.func 13), args := #[Go.Operand.tmp 92, Go.Operand.tmp 93], argTypes := #[26, 26] }, type := 4, pos := "law.go:54", after := #[{ on := 13, ground := Go.Ground.data }, { on := 14, ground := Go.Ground.data }, { on := 10, ground := Go.Ground.chain }, { on := 10, ground := Go.Ground.guard }], guard := some (10, true) }
abbrev pC16 : Oper := { dst := some 95, op := Go.Op.pick (Go.Operand.tmp 89) (Go.Operand.tmp 94) (Go.Operand.const (Go.Value.bool false)), type := 4, pos := "law.go:54", after := #[{ on := 10, ground := Go.Ground.data }, { on := 15, ground := Go.Ground.data }, { on := 6, ground := Go.Ground.guard }], guard := some (6, false) }
abbrev pC17 : Oper := { dst := some 96, op := Go.Op.move (Go.Operand.tmp 95), type := 4, pos := "law.go:54", after := #[{ on := 16, ground := Go.Ground.data }, { on := 15, ground := Go.Ground.chain }, { on := 6, ground := Go.Ground.guard }], guard := some (6, false) }
abbrev pC18 : Oper := { dst := some 97, op := Go.Op.load 24 (Go.Operand.tmp 2), type := 24, pos := "law.go:54", after := #[{ on := 17, ground := Go.Ground.guard }], guard := some (17, true) }
abbrev pC19 : Oper := { dst := some 98, op := Go.Op.load 26 (Go.Operand.tmp 3), type := 26, pos := "law.go:54", after := #[{ on := 17, ground := Go.Ground.guard }], guard := some (17, true) }
abbrev pC20 : Oper := { dst := some 99, op := Go.Op.call { callee := Go.Callee.value (Go.Operand.func 12), args := #[Go.Operand.tmp 97, Go.Operand.tmp 98], argTypes := #[24, 26] }, type := 4, pos := "law.go:54", after := #[{ on := 18, ground := Go.Ground.data }, { on := 19, ground := Go.Ground.data }, { on := 17, ground := Go.Ground.chain }, { on := 17, ground := Go.Ground.guard }], guard := some (17, true) }
abbrev pC21 : Oper := { dst := some 100, op := Go.Op.pick (Go.Operand.tmp 96) (Go.Operand.tmp 99) (Go.Operand.const (Go.Value.bool false)), type := 4, pos := "law.go:54", after := #[{ on := 17, ground := Go.Ground.data }, { on := 20, ground := Go.Ground.data }, { on := 6, ground := Go.Ground.guard }], guard := some (6, false) }
abbrev pC22 : Oper := { dst := some 101, op := Go.Op.pick (Go.Operand.tmp 85) (Go.Operand.const (Go.Value.bool true)) (Go.Operand.tmp 100), type := 4, pos := "law.go:54", after := #[{ on := 6, ground := Go.Ground.data }, { on := 21, ground := Go.Ground.data }, { on := 1, ground := Go.Ground.guard }], guard := some (1, true) }
abbrev pC23 : Oper := { dst := some 102, op := Go.Op.binOp Go.BinOp.eql 4 (Go.Operand.tmp 83) (Go.Operand.tmp 101) 4, type := 4, pos := "law.go:54", after := #[{ on := 4, ground := Go.Ground.data }, { on := 22, ground := Go.Ground.data }, { on := 1, ground := Go.Ground.guard }], guard := some (1, true) }
abbrev pC24 : Oper := { dst := some 103, op := Go.Op.pick (Go.Operand.tmp 80) (Go.Operand.tmp 102) (Go.Operand.const (Go.Value.bool false)), type := 4, pos := "law.go:54", after := #[{ on := 1, ground := Go.Ground.data }, { on := 23, ground := Go.Ground.data }], guard := none }
abbrev pC25 : Oper := { dst := some 104, op := Go.Op.move (Go.Operand.tmp 103), type := 4, pos := "law.go:54", after := #[{ on := 24, ground := Go.Ground.data }, { on := 20, ground := Go.Ground.chain }], guard := none }
abbrev pC26 : Oper := { dst := some 105, op := Go.Op.load 24 (Go.Operand.tmp 2), type := 24, pos := "law.go:54", after := #[{ on := 25, ground := Go.Ground.guard }], guard := some (25, true) }
abbrev pC27 : Oper := { dst := some 106, op := Go.Op.call { callee := Go.Callee.value (Go.Operand.func 11), args := #[Go.Operand.tmp 105, Go.Operand.const (Go.Value.int Go.IntKind.i64 0)], argTypes := #[24, 3] }, type := 29, pos := "law.go:54", after := #[{ on := 26, ground := Go.Ground.data }, { on := 25, ground := Go.Ground.chain }, { on := 25, ground := Go.Ground.guard }], guard := some (25, true) }
abbrev pC28 : Oper := { dst := some 107, op := Go.Op.call { callee := Go.Callee.builtin Go.Builtin.len, args := #[Go.Operand.tmp 106], argTypes := #[29] }, type := 3, pos := "law.go:54", after := #[{ on := 27, ground := Go.Ground.data }, { on := 25, ground := Go.Ground.guard }], guard := some (25, true) }
abbrev pC29 : Oper := { dst := some 108, op := Go.Op.binOp Go.BinOp.eql 3 (Go.Operand.tmp 107) (Go.Operand.const (Go.Value.int Go.IntKind.i64 0)) 3, type := 4, pos := "law.go:54", after := #[{ on := 28, ground := Go.Ground.data }, { on := 25, ground := Go.Ground.guard }], guard := some (25, true) }
abbrev pC30 : Oper := { dst := some 109, op := Go.Op.pick (Go.Operand.tmp 104) (Go.Operand.tmp 108) (Go.Operand.const (Go.Value.bool false)), type := 4, pos := "law.go:54", after := #[{ on := 25, ground := Go.Ground.data }, { on := 29, ground := Go.Ground.data }], guard := none }
abbrev pC31 : Oper := { dst := some 4, op := Go.Op.assign (Go.Operand.tmp 109), type := 4, pos := "law.go:54", after := #[{ on := 30, ground := Go.Ground.data }, { on := 27, ground := Go.Ground.chain }, { on := 0, ground := Go.Ground.phase }, { on := 1, ground := Go.Ground.phase }, { on := 2, ground := Go.Ground.phase }, { on := 3, ground := Go.Ground.phase }, { on := 4, ground := Go.Ground.phase }, { on := 5, ground := Go.Ground.phase }, { on := 6, ground := Go.Ground.phase }, { on := 7, ground := Go.Ground.phase }, { on := 8, ground := Go.Ground.phase }, { on := 9, ground := Go.Ground.phase }, { on := 10, ground := Go.Ground.phase }, { on := 11, ground := Go.Ground.phase }, { on := 12, ground := Go.Ground.phase }, { on := 13, ground := Go.Ground.phase }, { on := 14, ground := Go.Ground.phase }, { on := 15, ground := Go.Ground.phase }, { on := 16, ground := Go.Ground.phase }, { on := 17, ground := Go.Ground.phase }, { on := 18, ground := Go.Ground.phase }, { on := 19, ground := Go.Ground.phase }, { on := 20, ground := Go.Ground.phase }, { on := 21, ground := Go.Ground.phase }, { on := 22, ground := Go.Ground.phase }, { on := 23, ground := Go.Ground.phase }, { on := 24, ground := Go.Ground.phase }, { on := 25, ground := Go.Ground.phase }, { on := 26, ground := Go.Ground.phase }, { on := 27, ground := Go.Ground.phase }, { on := 28, ground := Go.Ground.phase }, { on := 29, ground := Go.Ground.phase }, { on := 30, ground := Go.Ground.phase }], guard := none }
set_option maxHeartbeats 16000000 in
set_option maxRecDepth 100000 in
theorem pairs_few (f : LF) (vaf vbf : Value) (pS pE : Int) (w : World) (raf : RunsAt w vaf f.a) (rbf : RunsAt w vbf f.b) (iaf : I64R f.a) (ibf : I64R f.b) (hp1 : -9223372036854775808 ≤ pS) (hp2 : pS ≤ 9223372036854775807) (hp3 : -9223372036854775808 ≤ pE) (hp4 : pE ≤ 9223372036854775807) (T : Tabs w) (hf : fewB f = false) :
    Calls Tryd.prog 3 #[leafV f vaf vbf, .agg #[.int .i64 pS, .int .i64 pE]] w fun e w' => e = .returned (.bool true) ∧ Kp w w' := by
  have RFW := Lib.hid (fun w1 (kk : Kp w w1) => few_any f vaf vbf w1 (raf.kp kk) (rbf.kp kk))
  rw [hf] at RFW
  obtain ⟨spf, uf, af, bf⟩ := f
  obtain ⟨adf, caf, rfl⟩ := raf.slice
  obtain ⟨bdf, cbf, rfl⟩ := rbf.slice
  unfold leafV at *
  simp only at *
  obtain ⟨W0, hW⟩ : ∃ W0, W0 = (w.alloc (.cells #[.bool spf, .int .i64 uf, .slice adf af.length caf, .slice bdf bf.length cbf] 24)).alloc (.cells #[.int .i64 pS, .int .i64 pE] 26) := ⟨_, rfl⟩
  have K00 := Lib.hid (show Kp w W0 by rw [hW]; exact (Kp.alloc _ _).trans (Kp.alloc _ _))
  have HB := Lib.hid (fun w1 (k : Kp W0 w1) => show w1.cell? ⟨w.heap.size, 0, none⟩ = some (.bool spf) ∧ w1.cell? ⟨w.heap.size, 1, none⟩ = some (.int .i64 uf) ∧ w1.cell? ⟨w.heap.size, 2, none⟩ = some (.slice adf af.length caf) ∧ w1.cell? ⟨w.heap.size, 3, none⟩ = some (.slice bdf bf.length cbf) ∧ w1.cell? ⟨w.heap.size + 1, 0, none⟩ = some (.int .i64 pS) ∧ w1.cell? ⟨w.heap.size + 1, 1, none⟩ = some (.int .i64 pE) from ⟨cell_up k (show W0.cell? ⟨w.heap.size, 0, none⟩ = some (.bool spf) by rw [hW]; simp), cell_up k (show W0.cell? ⟨w.heap.size, 1, none⟩ = some (.int .i64 uf) by rw [hW]; simp), cell_up k (show W0.cell? ⟨w.heap.size, 2, none⟩ = some (.slice adf af.length caf) by rw [hW]; simp), cell_up k (show W0.cell? ⟨w.heap.size, 3, none⟩ = some (.slice bdf bf.length cbf) by rw [hW]; simp), cell_up k (show W0.cell? ⟨w.heap.size + 1, 0, none⟩ = some (.int .i64 pS) by rw [hW]; simp), cell_up k (show W0.cell? ⟨w.heap.size + 1, 1, none⟩ = some (.int .i64 pE) by rw [hW]; simp)⟩)
  obtain ⟨c0, c1, c2, c3, c4, c5⟩ := HB.out W0 (Kp.refl _)
  have K0 := Lib.hid (Kp.refl W0)
  have HW := Lib.hid hW
  clear hW
  have AW := Lib.hid (fun w1 (kk : Kp W0 w1) => awake14 w1 (T.kp (K00.out.trans kk)))
  have FW := Lib.hid (fun w1 (kk : Kp W0 w1) => RFW.out w1 (K00.out.trans kk))
  clear raf rbf T
  go_enter Tryd.func3, Tryd.ntmps3
  go_wp2_with fail
  rw [← HW.out]
  refine (AW.out _ (by first | with_reducible exact K0.out | with_reducible exact K0.out.trans (Kp.alloc _ _) | with_reducible exact (K0.out.trans (Kp.alloc _ _)).trans (Kp.alloc _ _) | with_reducible exact ((K0.out.trans (Kp.alloc _ _)).trans (Kp.alloc _ _)).trans (Kp.alloc _ _) | with_reducible exact K0.out.trans (Kp.drew _) | with_reducible exact K0.out.trans (Kp.drewN _ _))).mono ?_
  rintro e w1 ⟨rfl, kk⟩
  have K1 := Lib.hid ((show Kp W0 _ from (by first | with_reducible exact K0.out | with_reducible exact K0.out.trans (Kp.alloc _ _) | with_reducible exact (K0.out.trans (Kp.alloc _ _)).trans (Kp.alloc _ _) | with_reducible exact ((K0.out.trans (Kp.alloc _ _)).trans (Kp.alloc _ _)).trans (Kp.alloc _ _) | with_reducible exact K0.out.trans (Kp.drew _) | with_reducible exact K0.out.trans (Kp.drewN _ _))).trans kk)
  clear kk
  clear c0 c1 c2 c3 c4 c5
  obtain ⟨c0, c1, c2, c3, c4, c5⟩ := HB.out w1 K1.out
  go_wp2_with fail
  refine (FW.out _ (by first | with_reducible exact K1.out | with_reducible exact K1.out.trans (Kp.alloc _ _) | with_reducible exact (K1.out.trans (Kp.alloc _ _)).trans (Kp.alloc _ _) | with_reducible exact ((K1.out.trans (Kp.alloc _ _)).trans (Kp.alloc _ _)).trans (Kp.alloc _ _) | with_reducible exact K1.out.trans (Kp.drew _) | with_reducible exact K1.out.trans (Kp.drewN _ _))).mono ?_
  rintro e w2 ⟨rfl, kk⟩
  have K2 := Lib.hid ((show Kp W0 _ from (by first | with_reducible exact K1.out | with_reducible exact K1.out.trans (Kp.alloc _ _) | with_reducible exact (K1.out.trans (Kp.alloc _ _)).trans (Kp.alloc _ _) | with_reducible exact ((K1.out.trans (Kp.alloc _ _)).trans (Kp.alloc _ _)).trans (Kp.alloc _ _) | with_reducible exact K1.out.trans (Kp.drew _) | with_reducible exact K1.out.trans (Kp.drewN _ _))).trans kk)
  clear kk
  clear c0 c1 c2 c3 c4 c5
  obtain ⟨c0, c1, c2, c3, c4, c5⟩ := HB.out w2 K2.out
  go_wp2
  go_ret
  exact ⟨rfl, K00.out.trans K2.out⟩
set_option maxHeartbeats 16000000 in
set_option maxRecDepth 100000 in
theorem pairs_main (f : LF) (vaf vbf : Value) (pS pE : Int) (w : World) (raf : RunsAt w vaf f.a) (rbf : RunsAt w vbf f.b) (iaf : I64R f.a) (ibf : I64R f.b) (hp1 : -9223372036854775808 ≤ pS) (hp2 : pS ≤ 9223372036854775807) (hp3 : -9223372036854775808 ≤ pE) (hp4 : pE ≤ 9223372036854775807) (T : Tabs w) (hf : fewB f = true) :
    Calls Tryd.prog 3 #[leafV f vaf vbf, .agg #[.int .i64 pS, .int .i64 pE]] w fun e w' => e = .returned (.bool true) ∧ Kp w w' := by
  have RFW := Lib.hid (fun w1 (kk : Kp w w1) => few_any f vaf vbf w1 (raf.kp kk) (rbf.kp kk))
  rw [hf] at RFW
  obtain ⟨n1, n2⟩ := fewB_yes hf
  have OK : LeafOk w f vaf vbf := ⟨raf, rbf, iaf, ibf, by omega, by omega⟩
  have FK := famR_ok f
  have RP := Lib.hid (fun w1 (kk : Kp w w1) => leafPairs_any f vaf vbf 1000 w1 (OK.kp kk) (T.kp kk))
  have RP0 := Lib.hid (fun w1 (kk : Kp w w1) => pairs_zero f vaf vbf w1 (OK.kp kk) (T.kp kk))
  rw [show (min 1000 1000 : Int).toNat = 1000 by decide] at RP
  have RH := Lib.hid (fun x y w1 (kk : Kp w w1) h1 h2 h3 h4 => leafHas_any f vaf vbf x y w1 (OK.kp kk) (T.kp kk) h1 h2 h3 h4)
  have RE := Lib.hid (fun w1 (kk : Kp w w1) => leafEmpty_any f vaf vbf w1 (OK.kp kk) (T.kp kk).2)
  rw [pairs_none FK] at RE
  have END := Lib.hid (pairs_end FK (pS, pE))
  have PAT := Lib.hid (fun k (hk : k < ((pairsF (famR f)).take 1000).length) => pairs_at FK hk)
  have UP := Lib.hid (fun k (hk : k + 1 < ((pairsF (famR f)).take 1000).length) => (ltB_iff _ _).2 (pairs_up FK hk))
  have LE := Lib.hid (fun x y (g : hasF (famR f) x y = true) => hasF_le FK g)
  have LP : ((pairsF (famR f)).take 1000).length ≤ 1000 := by rw [List.length_take]; omega
  generalize (pairsF (famR f)).take 1000 = P at *
  generalize famR f = F at *
  clear OK FK
  obtain ⟨spf, uf, af, bf⟩ := f
  obtain ⟨adf, caf, rfl⟩ := raf.slice
  obtain ⟨bdf, cbf, rfl⟩ := rbf.slice
  unfold leafV at *
  simp only at *
  obtain ⟨W0, hW⟩ : ∃ W0, W0 = (w.alloc (.cells #[.bool spf, .int .i64 uf, .slice adf af.length caf, .slice bdf bf.length cbf] 24)).alloc (.cells #[.int .i64 pS, .int .i64 pE] 26) := ⟨_, rfl⟩
  have K00 := Lib.hid (show Kp w W0 by rw [hW]; exact (Kp.alloc _ _).trans (Kp.alloc _ _))
  have HB := Lib.hid (fun w1 (k : Kp W0 w1) => show w1.cell? ⟨w.heap.size, 0, none⟩ = some (.bool spf) ∧ w1.cell? ⟨w.heap.size, 1, none⟩ = some (.int .i64 uf) ∧ w1.cell? ⟨w.heap.size, 2, none⟩ = some (.slice adf af.length caf) ∧ w1.cell? ⟨w.heap.size, 3, none⟩ = some (.slice bdf bf.length cbf) ∧ w1.cell? ⟨w.heap.size + 1, 0, none⟩ = some (.int .i64 pS) ∧ w1.cell? ⟨w.heap.size + 1, 1, none⟩ = some (.int .i64 pE) from ⟨cell_up k (show W0.cell? ⟨w.heap.size, 0, none⟩ = some (.bool spf) by rw [hW]; simp), cell_up k (show W0.cell? ⟨w.heap.size, 1, none⟩ = some (.int .i64 uf) by rw [hW]; simp), cell_up k (show W0.cell? ⟨w.heap.size, 2, none⟩ = some (.slice adf af.length caf) by rw [hW]; simp), cell_up k (show W0.cell? ⟨w.heap.size, 3, none⟩ = some (.slice bdf bf.length cbf) by rw [hW]; simp), cell_up k (show W0.cell? ⟨w.heap.size + 1, 0, none⟩ = some (.int .i64 pS) by rw [hW]; simp), cell_up k (show W0.cell? ⟨w.heap.size + 1, 1, none⟩ = some (.int .i64 pE) by rw [hW]; simp)⟩)
  obtain ⟨c0, c1, c2, c3, c4, c5⟩ := HB.out W0 (Kp.refl _)
  have K0 := Lib.hid (Kp.refl W0)
  have HW := Lib.hid hW
  clear hW
  have AW := Lib.hid (fun w1 (kk : Kp W0 w1) => awake14 w1 (T.kp (K00.out.trans kk)))
  have FW := Lib.hid (fun w1 (kk : Kp W0 w1) => RFW.out w1 (K00.out.trans kk))
  have PP := Lib.hid (fun w1 (kk : Kp W0 w1) => RP.out w1 (K00.out.trans kk))
  have P0 := Lib.hid (fun w1 (kk : Kp W0 w1) => RP0.out w1 (K00.out.trans kk))
  have CH := Lib.hid (fun x y w1 (kk : Kp W0 w1) h1 h2 h3 h4 => RH.out x y w1 (K00.out.trans kk) h1 h2 h3 h4)
  have CE := Lib.hid (fun w1 (kk : Kp W0 w1) => RE.out w1 (K00.out.trans kk))
  clear raf rbf T RP RH RE RFW RP0
  have hEq := eqPair
  go_enter Tryd.func3, Tryd.ntmps3
  go_wp2_with fail
  rw [← HW.out]
  refine (AW.out _ (by first | with_reducible exact K0.out | with_reducible exact K0.out.trans (Kp.alloc _ _) | with_reducible exact (K0.out.trans (Kp.alloc _ _)).trans (Kp.alloc _ _) | with_reducible exact ((K0.out.trans (Kp.alloc _ _)).trans (Kp.alloc _ _)).trans (Kp.alloc _ _) | with_reducible exact K0.out.trans (Kp.drew _) | with_reducible exact K0.out.trans (Kp.drewN _ _))).mono ?_
  rintro e w1 ⟨rfl, kk⟩
  have K1 := Lib.hid ((show Kp W0 _ from (by first | with_reducible exact K0.out | with_reducible exact K0.out.trans (Kp.alloc _ _) | with_reducible exact (K0.out.trans (Kp.alloc _ _)).trans (Kp.alloc _ _) | with_reducible exact ((K0.out.trans (Kp.alloc _ _)).trans (Kp.alloc _ _)).trans (Kp.alloc _ _) | with_reducible exact K0.out.trans (Kp.drew _) | with_reducible exact K0.out.trans (Kp.drewN _ _))).trans kk)
  clear kk
  clear c0 c1 c2 c3 c4 c5
  obtain ⟨c0, c1, c2, c3, c4, c5⟩ := HB.out w1 K1.out
  go_wp2_with fail
  refine (FW.out _ (by first | with_reducible exact K1.out | with_reducible exact K1.out.trans (Kp.alloc _ _) | with_reducible exact (K1.out.trans (Kp.alloc _ _)).trans (Kp.alloc _ _) | with_reducible exact ((K1.out.trans (Kp.alloc _ _)).trans (Kp.alloc _ _)).trans (Kp.alloc _ _) | with_reducible exact K1.out.trans (Kp.drew _) | with_reducible exact K1.out.trans (Kp.drewN _ _))).mono ?_
  rintro e w2 ⟨rfl, kk⟩
  have K2 := Lib.hid ((show Kp W0 _ from (by first | with_reducible exact K1.out | with_reducible exact K1.out.trans (Kp.alloc _ _) | with_reducible exact (K1.out.trans (Kp.alloc _ _)).trans (Kp.alloc _ _) | with_reducible exact ((K1.out.trans (Kp.alloc _ _)).trans (Kp.alloc _ _)).trans (Kp.alloc _ _) | with_reducible exact K1.out.trans (Kp.drew _) | with_reducible exact K1.out.trans (Kp.drewN _ _))).trans kk)
  clear kk
  clear c0 c1 c2 c3 c4 c5
  obtain ⟨c0, c1, c2, c3, c4, c5⟩ := HB.out w2 K2.out
  go_wp2_with fail
  refine (PP.out _ (by first | with_reducible exact K2.out | with_reducible exact K2.out.trans (Kp.alloc _ _) | with_reducible exact (K2.out.trans (Kp.alloc _ _)).trans (Kp.alloc _ _) | with_reducible exact ((K2.out.trans (Kp.alloc _ _)).trans (Kp.alloc _ _)).trans (Kp.alloc _ _) | with_reducible exact K2.out.trans (Kp.drew _) | with_reducible exact K2.out.trans (Kp.drewN _ _))).mono ?_
  rintro e w3 ⟨v, rfl, own, kk⟩
  have K3 := Lib.hid ((show Kp W0 _ from (by first | with_reducible exact K2.out | with_reducible exact K2.out.trans (Kp.alloc _ _) | with_reducible exact (K2.out.trans (Kp.alloc _ _)).trans (Kp.alloc _ _) | with_reducible exact ((K2.out.trans (Kp.alloc _ _)).trans (Kp.alloc _ _)).trans (Kp.alloc _ _) | with_reducible exact K2.out.trans (Kp.drew _) | with_reducible exact K2.out.trans (Kp.drewN _ _))).trans kk)
  obtain ⟨ad, cp, rfl⟩ := own_slice own
  have RR := Lib.hid (runsAt_own own)
  clear own
  clear kk
  clear c0 c1 c2 c3 c4 c5
  obtain ⟨c0, c1, c2, c3, c4, c5⟩ := HB.out w3 K3.out
  have Z3 := Lib.hid (Kp.refl w3)
  clear c0 c1 c2 c3 c4 c5
  go_wp2
  go_loopw [7, 8] (fun v i wr => ∃ k : Nat, k ≤ P.length ∧ i = .int .i64 k ∧ v = .bool (inP P (pS, pE) k) ∧ Hid (Kp w3 wr)) (fun _ i _ => P.length - (intOf i).toNat)
  case atStart => exact ⟨0, Nat.zero_le _, rfl, rfl, Z3⟩
  case round =>
    obtain ⟨k, hk, rfl, rfl, J⟩ := hrel
    obtain ⟨c0, c1, c2, c3, c4, c5⟩ := HB.out wr (K3.out.trans J.out)
    have Kr := Lib.hid (K3.out.trans J.out)
    by_cases hlt : k < P.length
    · rcases RR.out.kp J.out with ⟨_, _, _, e⟩ | ⟨b0, off, cap, ev, hc, hm, hx⟩
      · rw [e] at hlt; simp at hlt
      cases ev
      have HX := Lib.hid hx
      obtain ⟨d1, d2⟩ := hx k hlt
      have G := PAT.out k hlt
      have NB := Lib.hid (inP_next (p := (pS, pE)) hlt)
      have UPK := Lib.hid (fun j (hj : k = j + 1) => by have := UP.out j (by omega); rewrite [← hj] at this; exact this)
      obtain ⟨x, y, ee⟩ : ∃ x y, at_ P k = (x, y) := ⟨_, _, rfl⟩
      rw [ee] at d1 d2 G NB UPK
      simp only at d1 d2 G NB
      obtain ⟨l1, l2, l3⟩ := LE.out x y G
      have X1 := Lib.hid (fun w1 kk => by have := CH.out x y w1 kk (by omega) (by omega) (by omega) (by omega); rewrite [G] at this; exact this)
      clear hx hc hm ee G
      have hyx : decide (y < x) = false := decide_eq_false (by omega)
      have z1 : (k : Int) < (P.length : Int) := by omega
      have z2 : (0 : Int) ≤ (k : Int) := by omega
      generalize inP P (pS, pE) k = b at *
      by_cases hk0 : 0 < k
      · obtain ⟨j, hj⟩ : ∃ j, k = j + 1 := ⟨k - 1, by omega⟩
        obtain ⟨e1, e2⟩ := HX.out j (by omega)
        have LT := UPK.out j hj
        obtain ⟨u, v, e3⟩ : ∃ u v, at_ P j = (u, v) := ⟨_, _, rfl⟩
        rw [e3] at e1 e2 LT
        simp only at e1 e2
        have LS := Lib.hid (fun w1 => by have := less_any (u, v) (x, y) w1; rewrite [LT] at this; exact this)
        have w1' : IntKind.i64.wrap ((k : Int) - 1) = (j : Int) := by rw [show (k : Int) - 1 = (j : Int) by omega]; exact IntWalk.i64_in _ (by omega)
        have w0' : IntKind.i64.wrap (j : Int) = (j : Int) := IntWalk.i64_in _ (by omega)
        have w2' : (k : Int) - 1 = (j : Int) := by omega
        have w3' : (0 : Int) ≤ (j : Int) := by omega
        have w4' : (j : Int) < (P.length : Int) := by omega
        have w5' : decide (0 < (k : Int)) = true := decide_eq_true (by omega)
        have w6' : decide (0 < k) = true := decide_eq_true hk0
        have HJ := Lib.hid hj
        clear e3 LT hj
        have KS := Lib.hid (fun w' (kq : Kp wr w') => show w'.cell? ⟨w.heap.size, 0, none⟩ = some (.bool spf) ∧ w'.cell? ⟨w.heap.size, 1, none⟩ = some (.int .i64 uf) ∧ w'.cell? ⟨w.heap.size, 2, none⟩ = some (.slice adf af.length caf) ∧ w'.cell? ⟨w.heap.size, 3, none⟩ = some (.slice bdf bf.length cbf) ∧ w'.cell? ⟨w.heap.size + 1, 0, none⟩ = some (.int .i64 pS) ∧ w'.cell? ⟨w.heap.size + 1, 1, none⟩ = some (.int .i64 pE) ∧ w'.cell? ⟨b0, off + k * 2, none⟩ = some (.int .i64 x) ∧ w'.cell? ⟨b0, off + k * 2 + 1, none⟩ = some (.int .i64 y) ∧ w'.cell? ⟨b0, off + j * 2, none⟩ = some (.int .i64 u) ∧ w'.cell? ⟨b0, off + j * 2 + 1, none⟩ = some (.int .i64 v) ∧ Kp wr w' from ⟨(HB.out w' (Kr.out.trans kq)).1, (HB.out w' (Kr.out.trans kq)).2.1, (HB.out w' (Kr.out.trans kq)).2.2.1, (HB.out w' (Kr.out.trans kq)).2.2.2.1, (HB.out w' (Kr.out.trans kq)).2.2.2.2.1, (HB.out w' (Kr.out.trans kq)).2.2.2.2.2, cell_up kq d1, cell_up kq d2, cell_up kq e1, cell_up kq e2, kq⟩)
        go_wp2_with fail
        refine wp_region_held_drew (S := fun w' => w'.cell? ⟨w.heap.size, 0, none⟩ = some (.bool spf) ∧ w'.cell? ⟨w.heap.size, 1, none⟩ = some (.int .i64 uf) ∧ w'.cell? ⟨w.heap.size, 2, none⟩ = some (.slice adf af.length caf) ∧ w'.cell? ⟨w.heap.size, 3, none⟩ = some (.slice bdf bf.length cbf) ∧ w'.cell? ⟨w.heap.size + 1, 0, none⟩ = some (.int .i64 pS) ∧ w'.cell? ⟨w.heap.size + 1, 1, none⟩ = some (.int .i64 pE) ∧ w'.cell? ⟨b0, off + k * 2, none⟩ = some (.int .i64 x) ∧ w'.cell? ⟨b0, off + k * 2 + 1, none⟩ = some (.int .i64 y) ∧ w'.cell? ⟨b0, off + j * 2, none⟩ = some (.int .i64 u) ∧ w'.cell? ⟨b0, off + j * 2 + 1, none⟩ = some (.int .i64 v) ∧ Kp wr w') (by kernel_rfl) ?_ (fun hHeld0 => ?_)
        · (try dsimp only); exact KS.out _ (by first | assumption | exact Kp.drew _)
        refine tkW (v := ?_) 0 pA0 rfl (by kernel_rfl) (by kernel_rfl) (by kernel_rfl) (fun _ _ _ h => h) (by rfl) ?_ (by assumption) ?_
        rotate_left
        · intro w hSw; (try dsimp only at hSw); go_simp; (try with_reducible rfl)
        (try simp only [Act.put, pA0, List.setIfInBounds_toArray, List.set_cons_zero, List.set_cons_succ])
        refine tkW (v := ?_) 1 pA1 rfl (by kernel_rfl) (by kernel_rfl) (by kernel_rfl) (fun _ _ _ h => h) (by rfl) ?_ (by assumption) ?_
        rotate_left
        · intro w hSw; (try dsimp only at hSw); go_simp; (try with_reducible rfl)
        (try simp only [Act.put, pA1, List.setIfInBounds_toArray, List.set_cons_zero, List.set_cons_succ])
        refine tkW (v := ?_) 2 pA2 rfl (by kernel_rfl) (by kernel_rfl) (by kernel_rfl) (fun _ _ _ h => h) (by rfl) ?_ (by assumption) ?_
        rotate_left
        · intro w hSw; (try dsimp only at hSw); go_simp; (try with_reducible rfl)
        (try simp only [Act.put, pA2, List.setIfInBounds_toArray, List.set_cons_zero, List.set_cons_succ])
        refine tkW (v := ?_) 3 pA3 rfl (by kernel_rfl) (by kernel_rfl) (by kernel_rfl) (fun _ _ _ h => h) (by rfl) ?_ (by assumption) ?_
        rotate_left
        · intro w hSw; (try dsimp only at hSw); go_simp; (try with_reducible rfl)
        (try simp only [Act.put, pA3, List.setIfInBounds_toArray, List.set_cons_zero, List.set_cons_succ])
        refine tkW (v := ?_) 4 pA4 rfl (by kernel_rfl) (by kernel_rfl) (by kernel_rfl) (fun _ _ _ h => h) (by rfl) ?_ (by assumption) ?_
        rotate_left
        · intro w hSw; (try dsimp only at hSw); go_simp; (try with_reducible rfl)
        (try simp only [Act.put, pA4, List.setIfInBounds_toArray, List.set_cons_zero, List.set_cons_succ])
        refine tkE 5 pA5 rfl (by kernel_rfl) (fun K hK => ?_)
        go_simp
        (refine (X1.out _ (Kr.out.trans (by first | assumption | exact Kp.drew _))).mono ?_; rintro e w' ⟨rfl, k1⟩; have k2 := Kp.trans (show Kp wr _ from (by first | assumption | exact Kp.drew _)) k1; clear k1)
        (try go_wp2_with fail)
        refine hK.out _ _ ?_ (fun hHeld1 => ?_)
        · (try dsimp only); exact KS.out _ (by first | assumption | exact Kp.drew _)
        clear hK K hHeld0
        (try simp only [Act.put, pA5, List.setIfInBounds_toArray, List.set_cons_zero, List.set_cons_succ])
        refine tkW (v := ?_) 6 pA6 rfl (by kernel_rfl) (by kernel_rfl) (by kernel_rfl) (fun _ _ _ h => h) (by rfl) ?_ (by assumption) ?_
        rotate_left
        · intro w hSw; (try dsimp only at hSw); go_simp; (try with_reducible rfl)
        (try simp only [Act.put, pA6, List.setIfInBounds_toArray, List.set_cons_zero, List.set_cons_succ])
        refine tkW (v := ?_) 7 pA7 rfl (by kernel_rfl) (by kernel_rfl) (by kernel_rfl) (fun _ _ _ h => h) (by rfl) ?_ (by assumption) ?_
        rotate_left
        · intro w hSw; (try dsimp only at hSw); go_simp; (try with_reducible rfl)
        (try simp only [Act.put, pA7, List.setIfInBounds_toArray, List.set_cons_zero, List.set_cons_succ])
        refine tkW (v := ?_) 8 pA8 rfl (by kernel_rfl) (by kernel_rfl) (by kernel_rfl) (fun _ _ _ h => h) (by rfl) ?_ (by assumption) ?_
        rotate_left
        · intro w hSw; (try dsimp only at hSw); go_simp; (try with_reducible rfl)
        (try simp only [Act.put, pA8, List.setIfInBounds_toArray, List.set_cons_zero, List.set_cons_succ])
        refine tkW (v := ?_) 9 pA9 rfl (by kernel_rfl) (by kernel_rfl) (by kernel_rfl) (fun _ _ _ h => h) (by rfl) ?_ (by assumption) ?_
        rotate_left
        · intro w hSw; (try dsimp only at hSw); go_simp; (try with_reducible rfl)
        (try simp only [Act.put, pA9, List.setIfInBounds_toArray, List.set_cons_zero, List.set_cons_succ])
        refine tkW (v := ?_) 10 pA10 rfl (by kernel_rfl) (by kernel_rfl) (by kernel_rfl) (fun _ _ _ h => h) (by rfl) ?_ (by assumption) ?_
        rotate_left
        · intro w hSw; (try dsimp only at hSw); go_simp; (try with_reducible rfl)
        (try simp only [Act.put, pA10, List.setIfInBounds_toArray, List.set_cons_zero, List.set_cons_succ])
        refine tkW (v := ?_) 11 pA11 rfl (by kernel_rfl) (by kernel_rfl) (by kernel_rfl) (fun _ _ _ h => h) (by rfl) ?_ (by assumption) ?_
        rotate_left
        · intro w hSw; (try dsimp only at hSw); go_simp; (try with_reducible rfl)
        (try simp only [Act.put, pA11, List.setIfInBounds_toArray, List.set_cons_zero, List.set_cons_succ])
        refine tkW (v := ?_) 12 pA12 rfl (by kernel_rfl) (by kernel_rfl) (by kernel_rfl) (fun _ _ _ h => h) (by rfl) ?_ (by assumption) ?_
        rotate_left
        · intro w hSw; (try dsimp only at hSw); go_simp; (try with_reducible rfl)
        (try simp only [Act.put, pA12, List.setIfInBounds_toArray, List.set_cons_zero, List.set_cons_succ])
        refine tkW (v := ?_) 13 pA13 rfl (by kernel_rfl) (by kernel_rfl) (by kernel_rfl) (fun _ _ _ h => h) (by rfl) ?_ (by assumption) ?_
        rotate_left
        · intro w hSw; (try dsimp only at hSw); go_simp; (try with_reducible rfl)
        (try simp only [Act.put, pA13, List.setIfInBounds_toArray, List.set_cons_zero, List.set_cons_succ])
        refine tkW (v := ?_) 14 pA14 rfl (by kernel_rfl) (by kernel_rfl) (by kernel_rfl) (fun _ _ _ h => h) (by rfl) ?_ (by assumption) ?_
        rotate_left
        · intro w hSw; (try dsimp only at hSw); go_simp; (try with_reducible rfl)
        (try simp only [Act.put, pA14, List.setIfInBounds_toArray, List.set_cons_zero, List.set_cons_succ])
        refine tkW (v := ?_) 15 pA15 rfl (by kernel_rfl) (by kernel_rfl) (by kernel_rfl) (fun _ _ _ h => h) (by rfl) ?_ (by assumption) ?_
        rotate_left
        · intro w hSw; (try dsimp only at hSw); go_simp; (try with_reducible rfl)
        (try simp only [Act.put, pA15, List.setIfInBounds_toArray, List.set_cons_zero, List.set_cons_succ])
        refine tkW (v := ?_) 16 pA16 rfl (by kernel_rfl) (by kernel_rfl) (by kernel_rfl) (fun _ _ _ h => h) (by rfl) ?_ (by assumption) ?_
        rotate_left
        · intro w hSw; (try dsimp only at hSw); go_simp; (try with_reducible rfl)
        (try simp only [Act.put, pA16, List.setIfInBounds_toArray, List.set_cons_zero, List.set_cons_succ])
        refine tkW (v := ?_) 17 pA17 rfl (by kernel_rfl) (by kernel_rfl) (by kernel_rfl) (fun _ _ _ h => h) (by rfl) ?_ (by assumption) ?_
        rotate_left
        · intro w hSw; (try dsimp only at hSw); go_simp; (try with_reducible rfl)
        (try simp only [Act.put, pA17, List.setIfInBounds_toArray, List.set_cons_zero, List.set_cons_succ])
        refine tkW (v := ?_) 18 pA18 rfl (by kernel_rfl) (by kernel_rfl) (by kernel_rfl) (fun _ _ _ h => h) (by rfl) ?_ (by assumption) ?_
        rotate_left
        · intro w hSw; (try dsimp only at hSw); go_simp; (try with_reducible rfl)
        (try simp only [Act.put, pA18, List.setIfInBounds_toArray, List.set_cons_zero, List.set_cons_succ])
        refine tkW (v := ?_) 19 pA19 rfl (by kernel_rfl) (by kernel_rfl) (by kernel_rfl) (fun _ _ _ h => h) (by rfl) ?_ (by assumption) ?_
        rotate_left
        · intro w hSw; (try dsimp only at hSw); go_simp; (try with_reducible rfl)
        (try simp only [Act.put, pA19, List.setIfInBounds_toArray, List.set_cons_zero, List.set_cons_succ])
        refine tkW (v := ?_) 20 pA20 rfl (by kernel_rfl) (by kernel_rfl) (by kernel_rfl) (fun _ _ _ h => h) (by rfl) ?_ (by assumption) ?_
        rotate_left
        · intro w hSw; (try dsimp only at hSw); go_simp; (try with_reducible rfl)
        (try simp only [Act.put, pA20, List.setIfInBounds_toArray, List.set_cons_zero, List.set_cons_succ])
        refine tkW (v := ?_) 21 pA21 rfl (by kernel_rfl) (by kernel_rfl) (by kernel_rfl) (fun _ _ _ h => h) (by rfl) ?_ (by assumption) ?_
        rotate_left
        · intro w hSw; (try dsimp only at hSw); go_simp; (try with_reducible rfl)
        (try simp only [Act.put, pA21, List.setIfInBounds_toArray, List.set_cons_zero, List.set_cons_succ])
        refine tkW (v := ?_) 22 pA22 rfl (by kernel_rfl) (by kernel_rfl) (by kernel_rfl) (fun _ _ _ h => h) (by rfl) ?_ (by assumption) ?_
        rotate_left
        · intro w hSw; (try dsimp only at hSw); go_simp; (try with_reducible rfl)
        (try simp only [Act.put, pA22, List.setIfInBounds_toArray, List.set_cons_zero, List.set_cons_succ])
        refine tkW (v := ?_) 23 pA23 rfl (by kernel_rfl) (by kernel_rfl) (by kernel_rfl) (fun _ _ _ h => h) (by rfl) ?_ (by assumption) ?_
        rotate_left
        · intro w hSw; (try dsimp only at hSw); go_simp; (try with_reducible rfl)
        (try simp only [Act.put, pA23, List.setIfInBounds_toArray, List.set_cons_zero, List.set_cons_succ])
        refine tkW (v := ?_) 24 pA24 rfl (by kernel_rfl) (by kernel_rfl) (by kernel_rfl) (fun _ _ _ h => h) (by rfl) ?_ (by assumption) ?_
        rotate_left
        · intro w hSw; (try dsimp only at hSw); go_simp; (try with_reducible rfl)
        (try simp only [Act.put, pA24, List.setIfInBounds_toArray, List.set_cons_zero, List.set_cons_succ])
        refine tkW (v := ?_) 25 pA25 rfl (by kernel_rfl) (by kernel_rfl) (by kernel_rfl) (fun _ _ _ h => h) (by rfl) ?_ (by assumption) ?_
        rotate_left
        · intro w hSw; (try dsimp only at hSw); go_simp; (try with_reducible rfl)
        (try simp only [Act.put, pA25, List.setIfInBounds_toArray, List.set_cons_zero, List.set_cons_succ])
        refine tkW (v := ?_) 26 pA26 rfl (by kernel_rfl) (by kernel_rfl) (by kernel_rfl) (fun _ _ _ h => h) (by rfl) ?_ (by assumption) ?_
        rotate_left
        · intro w hSw; (try dsimp only at hSw); go_simp; (try with_reducible rfl)
        (try simp only [Act.put, pA26, List.setIfInBounds_toArray, List.set_cons_zero, List.set_cons_succ])
        refine tkW (v := ?_) 27 pA27 rfl (by kernel_rfl) (by kernel_rfl) (by kernel_rfl) (fun _ _ _ h => h) (by rfl) ?_ (by assumption) ?_
        rotate_left
        · intro w hSw; (try dsimp only at hSw); go_simp; (try with_reducible rfl)
        (try simp only [Act.put, pA27, List.setIfInBounds_toArray, List.set_cons_zero, List.set_cons_succ])
        refine tkW (v := ?_) 28 pA28 rfl (by kernel_rfl) (by kernel_rfl) (by kernel_rfl) (fun _ _ _ h => h) (by rfl) ?_ (by assumption) ?_
        rotate_left
        · intro w hSw; (try dsimp only at hSw); go_simp; (try with_reducible rfl)
        (try simp only [Act.put, pA28, List.setIfInBounds_toArray, List.set_cons_zero, List.set_cons_succ])
        refine tkW (v := ?_) 29 pA29 rfl (by kernel_rfl) (by kernel_rfl) (by kernel_rfl) (fun _ _ _ h => h) (by rfl) ?_ (by assumption) ?_
        rotate_left
        · intro w hSw; (try dsimp only at hSw); go_simp; (try with_reducible rfl)
        (try simp only [Act.put, pA29, List.setIfInBounds_toArray, List.set_cons_zero, List.set_cons_succ])
        refine tkW (v := ?_) 30 pA30 rfl (by kernel_rfl) (by kernel_rfl) (by kernel_rfl) (fun _ _ _ h => h) (by rfl) ?_ (by assumption) ?_
        rotate_left
        · intro w hSw; (try dsimp only at hSw); go_simp; (try with_reducible rfl)
        (try simp only [Act.put, pA30, List.setIfInBounds_toArray, List.set_cons_zero, List.set_cons_succ])
        refine tkW (v := ?_) 31 pA31 rfl (by kernel_rfl) (by kernel_rfl) (by kernel_rfl) (fun _ _ _ h => h) (by rfl) ?_ (by assumption) ?_
        rotate_left
        · intro w hSw; (try dsimp only at hSw); go_simp; (try with_reducible rfl)
        (try simp only [Act.put, pA31, List.setIfInBounds_toArray, List.set_cons_zero, List.set_cons_succ])
        refine tkW (v := ?_) 32 pA32 rfl (by kernel_rfl) (by kernel_rfl) (by kernel_rfl) (fun _ _ _ h => h) (by rfl) ?_ (by assumption) ?_
        rotate_left
        · intro w hSw; (try dsimp only at hSw); go_simp; (try with_reducible rfl)
        (try simp only [Act.put, pA32, List.setIfInBounds_toArray, List.set_cons_zero, List.set_cons_succ])
        refine tkE 33 pA33 rfl (by kernel_rfl) (fun K hK => ?_)
        go_simp
        (refine (LS.out _).mono ?_; rintro e w' ⟨rfl, k1⟩; have k2 := Kp.trans (show Kp wr _ from (by first | assumption | exact Kp.drew _)) k1; clear k1)
        (try go_wp2_with fail)
        refine hK.out _ _ ?_ (fun hHeld2 => ?_)
        · (try dsimp only); exact KS.out _ (by first | assumption | exact Kp.drew _)
        clear hK K hHeld1
        (try simp only [Act.put, pA33, List.setIfInBounds_toArray, List.set_cons_zero, List.set_cons_succ])
        refine tkW (v := ?_) 34 pA34 rfl (by kernel_rfl) (by kernel_rfl) (by kernel_rfl) (fun _ _ _ h => h) (by rfl) ?_ (by assumption) ?_
        rotate_left
        · intro w hSw; (try dsimp only at hSw); go_simp; (try with_reducible rfl)
        (try simp only [Act.put, pA34, List.setIfInBounds_toArray, List.set_cons_zero, List.set_cons_succ])
        refine tkW (v := ?_) 35 pA35 rfl (by kernel_rfl) (by kernel_rfl) (by kernel_rfl) (fun _ _ _ h => h) (by rfl) ?_ (by assumption) ?_
        rotate_left
        · intro w hSw; (try dsimp only at hSw); go_simp; (try with_reducible rfl)
        (try simp only [Act.put, pA35, List.setIfInBounds_toArray, List.set_cons_zero, List.set_cons_succ])
        refine tkW (v := ?_) 36 pA36 rfl (by kernel_rfl) (by kernel_rfl) (by kernel_rfl) (fun _ _ _ h => h) (by rfl) ?_ (by assumption) ?_
        rotate_left
        · intro w hSw; (try dsimp only at hSw); go_simp; (try with_reducible rfl)
        (try simp only [Act.put, pA36, List.setIfInBounds_toArray, List.set_cons_zero, List.set_cons_succ])
        refine wpAnyH_done (by kernel_rfl) ?_ _
        clear hk0
        cases b with
        | false =>
          go_wp2_with fail
          obtain ⟨wz, hwz⟩ : ∃ x, x = w' := ⟨_, rfl⟩
          subst hwz
          have k9 := Lib.hid (show Kp wr wz from (by first | assumption | exact Kp.drew _))
          have Kz := Lib.hid (Kr.out.trans k9.out)
          have JJ := Lib.hid (J.out.trans k9.out)
          have D1 := Lib.hid (cell_up k9.out d1)
          have D2 := Lib.hid (cell_up k9.out d2)
          have d1' := D1.out
          have d2' := D2.out
          clear KS
          have KS := Lib.hid (fun w' (kq : Kp wz w') => show w'.cell? ⟨w.heap.size, 0, none⟩ = some (.bool spf) ∧ w'.cell? ⟨w.heap.size, 1, none⟩ = some (.int .i64 uf) ∧ w'.cell? ⟨w.heap.size, 2, none⟩ = some (.slice adf af.length caf) ∧ w'.cell? ⟨w.heap.size, 3, none⟩ = some (.slice bdf bf.length cbf) ∧ w'.cell? ⟨w.heap.size + 1, 0, none⟩ = some (.int .i64 pS) ∧ w'.cell? ⟨w.heap.size + 1, 1, none⟩ = some (.int .i64 pE) ∧ w'.cell? ⟨b0, off + k * 2, none⟩ = some (.int .i64 x) ∧ w'.cell? ⟨b0, off + k * 2 + 1, none⟩ = some (.int .i64 y) ∧ Kp wz w' from ⟨(HB.out w' (Kz.out.trans kq)).1, (HB.out w' (Kz.out.trans kq)).2.1, (HB.out w' (Kz.out.trans kq)).2.2.1, (HB.out w' (Kz.out.trans kq)).2.2.2.1, (HB.out w' (Kz.out.trans kq)).2.2.2.2.1, (HB.out w' (Kz.out.trans kq)).2.2.2.2.2, cell_up kq d1', cell_up kq d2', kq⟩)
          go_wp2_with fail
          refine wp_region_held_drew (S := fun w' => w'.cell? ⟨w.heap.size, 0, none⟩ = some (.bool spf) ∧ w'.cell? ⟨w.heap.size, 1, none⟩ = some (.int .i64 uf) ∧ w'.cell? ⟨w.heap.size, 2, none⟩ = some (.slice adf af.length caf) ∧ w'.cell? ⟨w.heap.size, 3, none⟩ = some (.slice bdf bf.length cbf) ∧ w'.cell? ⟨w.heap.size + 1, 0, none⟩ = some (.int .i64 pS) ∧ w'.cell? ⟨w.heap.size + 1, 1, none⟩ = some (.int .i64 pE) ∧ w'.cell? ⟨b0, off + k * 2, none⟩ = some (.int .i64 x) ∧ w'.cell? ⟨b0, off + k * 2 + 1, none⟩ = some (.int .i64 y) ∧ Kp wz w') (by kernel_rfl) ?_ (fun hHeld0 => ?_)
          · (try dsimp only); exact KS.out _ (by first | assumption | exact Kp.drew _)
          refine tkW (v := ?_) 0 pB0 rfl (by kernel_rfl) (by kernel_rfl) (by kernel_rfl) (fun _ _ _ h => h) (by rfl) ?_ (by assumption) ?_
          rotate_left
          · intro w hSw; (try dsimp only at hSw); go_simp; (try with_reducible rfl)
          (try simp only [Act.put, pB0, List.setIfInBounds_toArray, List.set_cons_zero, List.set_cons_succ])
          refine tkW (v := ?_) 1 pB1 rfl (by kernel_rfl) (by kernel_rfl) (by kernel_rfl) (fun _ _ _ h => h) (by rfl) ?_ (by assumption) ?_
          rotate_left
          · intro w hSw; (try dsimp only at hSw); go_simp; (try with_reducible rfl)
          (try simp only [Act.put, pB1, List.setIfInBounds_toArray, List.set_cons_zero, List.set_cons_succ])
          refine tkW (v := ?_) 2 pB2 rfl (by kernel_rfl) (by kernel_rfl) (by kernel_rfl) (fun _ _ _ h => h) (by rfl) ?_ (by assumption) ?_
          rotate_left
          · intro w hSw; (try dsimp only at hSw); go_simp; (try with_reducible rfl)
          (try simp only [Act.put, pB2, List.setIfInBounds_toArray, List.set_cons_zero, List.set_cons_succ])
          refine tkW (v := ?_) 3 pB3 rfl (by kernel_rfl) (by kernel_rfl) (by kernel_rfl) (fun _ _ _ h => h) (by rfl) ?_ (by assumption) ?_
          rotate_left
          · intro w hSw; (try dsimp only at hSw); go_simp; (try with_reducible rfl)
          (try simp only [Act.put, pB3, List.setIfInBounds_toArray, List.set_cons_zero, List.set_cons_succ])
          refine tkW (v := ?_) 4 pB4 rfl (by kernel_rfl) (by kernel_rfl) (by kernel_rfl) (fun _ _ _ h => h) (by rfl) ?_ (by assumption) ?_
          rotate_left
          · intro w hSw; (try dsimp only at hSw); go_simp; (try with_reducible rfl)
          (try simp only [Act.put, pB4, List.setIfInBounds_toArray, List.set_cons_zero, List.set_cons_succ])
          refine tkW (v := ?_) 5 pB5 rfl (by kernel_rfl) (by kernel_rfl) (by kernel_rfl) (fun _ _ _ h => h) (by rfl) ?_ (by assumption) ?_
          rotate_left
          · intro w hSw; (try dsimp only at hSw); go_simp; (try with_reducible rfl)
          (try simp only [Act.put, pB5, List.setIfInBounds_toArray, List.set_cons_zero, List.set_cons_succ])
          refine tkW (v := ?_) 6 pB6 rfl (by kernel_rfl) (by kernel_rfl) (by kernel_rfl) (fun _ _ _ h => h) (by rfl) ?_ (by assumption) ?_
          rotate_left
          · intro w hSw; (try dsimp only at hSw); go_simp; (try with_reducible rfl)
          (try simp only [Act.put, pB6, List.setIfInBounds_toArray, List.set_cons_zero, List.set_cons_succ])
          refine tkW (v := ?_) 7 pB7 rfl (by kernel_rfl) (by kernel_rfl) (by kernel_rfl) (fun _ _ _ h => h) (by rfl) ?_ (by assumption) ?_
          rotate_left
          · intro w hSw; (try dsimp only at hSw); go_simp; (try with_reducible rfl)
          (try simp only [Act.put, pB7, List.setIfInBounds_toArray, List.set_cons_zero, List.set_cons_succ])
          refine tkW (v := ?_) 8 pB8 rfl (by kernel_rfl) (by kernel_rfl) (by kernel_rfl) (fun _ _ _ h => h) (by rfl) ?_ (by assumption) ?_
          rotate_left
          · intro w hSw; (try dsimp only at hSw); go_simp; (try with_reducible rfl)
          (try simp only [Act.put, pB8, List.setIfInBounds_toArray, List.set_cons_zero, List.set_cons_succ])
          refine tkW (v := ?_) 9 pB9 rfl (by kernel_rfl) (by kernel_rfl) (by kernel_rfl) (fun _ _ _ h => h) (by rfl) ?_ (by assumption) ?_
          rotate_left
          · intro w hSw; (try dsimp only at hSw); go_simp; (try with_reducible rfl)
          (try simp only [Act.put, pB9, List.setIfInBounds_toArray, List.set_cons_zero, List.set_cons_succ])
          refine wpAnyH_done (by kernel_rfl) ?_ _
          have J9 := Lib.hid (JJ.out.trans (by first | assumption | exact Kp.drew _))
          go_wp2
          go_roundw
          case rel => exact ⟨k + 1, by omega, by go_num, by rw [NB.out]; first | rfl | simp, J9⟩
          case measure => simp [intOf]; omega
        | true =>
          go_wp2_with fail
          obtain ⟨wz, hwz⟩ : ∃ x, x = w' := ⟨_, rfl⟩
          subst hwz
          have k9 := Lib.hid (show Kp wr wz from (by first | assumption | exact Kp.drew _))
          have Kz := Lib.hid (Kr.out.trans k9.out)
          have JJ := Lib.hid (J.out.trans k9.out)
          have D1 := Lib.hid (cell_up k9.out d1)
          have D2 := Lib.hid (cell_up k9.out d2)
          have d1' := D1.out
          have d2' := D2.out
          clear KS
          have KS := Lib.hid (fun w' (kq : Kp wz w') => show w'.cell? ⟨w.heap.size, 0, none⟩ = some (.bool spf) ∧ w'.cell? ⟨w.heap.size, 1, none⟩ = some (.int .i64 uf) ∧ w'.cell? ⟨w.heap.size, 2, none⟩ = some (.slice adf af.length caf) ∧ w'.cell? ⟨w.heap.size, 3, none⟩ = some (.slice bdf bf.length cbf) ∧ w'.cell? ⟨w.heap.size + 1, 0, none⟩ = some (.int .i64 pS) ∧ w'.cell? ⟨w.heap.size + 1, 1, none⟩ = some (.int .i64 pE) ∧ w'.cell? ⟨b0, off + k * 2, none⟩ = some (.int .i64 x) ∧ w'.cell? ⟨b0, off + k * 2 + 1, none⟩ = some (.int .i64 y) ∧ Kp wz w' from ⟨(HB.out w' (Kz.out.trans kq)).1, (HB.out w' (Kz.out.trans kq)).2.1, (HB.out w' (Kz.out.trans kq)).2.2.1, (HB.out w' (Kz.out.trans kq)).2.2.2.1, (HB.out w' (Kz.out.trans kq)).2.2.2.2.1, (HB.out w' (Kz.out.trans kq)).2.2.2.2.2, cell_up kq d1', cell_up kq d2', kq⟩)
          go_wp2_with fail
          refine wp_region_held_drew (S := fun w' => w'.cell? ⟨w.heap.size, 0, none⟩ = some (.bool spf) ∧ w'.cell? ⟨w.heap.size, 1, none⟩ = some (.int .i64 uf) ∧ w'.cell? ⟨w.heap.size, 2, none⟩ = some (.slice adf af.length caf) ∧ w'.cell? ⟨w.heap.size, 3, none⟩ = some (.slice bdf bf.length cbf) ∧ w'.cell? ⟨w.heap.size + 1, 0, none⟩ = some (.int .i64 pS) ∧ w'.cell? ⟨w.heap.size + 1, 1, none⟩ = some (.int .i64 pE) ∧ w'.cell? ⟨b0, off + k * 2, none⟩ = some (.int .i64 x) ∧ w'.cell? ⟨b0, off + k * 2 + 1, none⟩ = some (.int .i64 y) ∧ Kp wz w') (by kernel_rfl) ?_ (fun hHeld0 => ?_)
          · (try dsimp only); exact KS.out _ (by first | assumption | exact Kp.drew _)
          refine tkW (v := ?_) 0 pB0 rfl (by kernel_rfl) (by kernel_rfl) (by kernel_rfl) (fun _ _ _ h => h) (by rfl) ?_ (by assumption) ?_
          rotate_left
          · intro w hSw; (try dsimp only at hSw); go_simp; (try with_reducible rfl)
          (try simp only [Act.put, pB0, List.setIfInBounds_toArray, List.set_cons_zero, List.set_cons_succ])
          refine tkW (v := ?_) 1 pB1 rfl (by kernel_rfl) (by kernel_rfl) (by kernel_rfl) (fun _ _ _ h => h) (by rfl) ?_ (by assumption) ?_
          rotate_left
          · intro w hSw; (try dsimp only at hSw); go_simp; (try with_reducible rfl)
          (try simp only [Act.put, pB1, List.setIfInBounds_toArray, List.set_cons_zero, List.set_cons_succ])
          refine tkU 2 pB2 rfl (by kernel_rfl) (by kernel_rfl) (by kernel_rfl) (fun _ _ _ h => h) (by rfl) (by assumption) ?_
          (try simp only [Act.put, pB2, List.setIfInBounds_toArray, List.set_cons_zero, List.set_cons_succ])
          refine tkU 3 pB3 rfl (by kernel_rfl) (by kernel_rfl) (by kernel_rfl) (fun _ _ _ h => h) (by rfl) (by assumption) ?_
          (try simp only [Act.put, pB3, List.setIfInBounds_toArray, List.set_cons_zero, List.set_cons_succ])
          refine tkU 4 pB4 rfl (by kernel_rfl) (by kernel_rfl) (by kernel_rfl) (fun _ _ _ h => h) (by rfl) (by assumption) ?_
          (try simp only [Act.put, pB4, List.setIfInBounds_toArray, List.set_cons_zero, List.set_cons_succ])
          refine tkU 5 pB5 rfl (by kernel_rfl) (by kernel_rfl) (by kernel_rfl) (fun _ _ _ h => h) (by rfl) (by assumption) ?_
          (try simp only [Act.put, pB5, List.setIfInBounds_toArray, List.set_cons_zero, List.set_cons_succ])
          refine tkU 6 pB6 rfl (by kernel_rfl) (by kernel_rfl) (by kernel_rfl) (fun _ _ _ h => h) (by rfl) (by assumption) ?_
          (try simp only [Act.put, pB6, List.setIfInBounds_toArray, List.set_cons_zero, List.set_cons_succ])
          refine tkU 7 pB7 rfl (by kernel_rfl) (by kernel_rfl) (by kernel_rfl) (fun _ _ _ h => h) (by rfl) (by assumption) ?_
          (try simp only [Act.put, pB7, List.setIfInBounds_toArray, List.set_cons_zero, List.set_cons_succ])
          refine tkW (v := ?_) 8 pB8 rfl (by kernel_rfl) (by kernel_rfl) (by kernel_rfl) (fun _ _ _ h => h) (by rfl) ?_ (by assumption) ?_
          rotate_left
          · intro w hSw; (try dsimp only at hSw); go_simp; (try with_reducible rfl)
          (try simp only [Act.put, pB8, List.setIfInBounds_toArray, List.set_cons_zero, List.set_cons_succ])
          refine tkW (v := ?_) 9 pB9 rfl (by kernel_rfl) (by kernel_rfl) (by kernel_rfl) (fun _ _ _ h => h) (by rfl) ?_ (by assumption) ?_
          rotate_left
          · intro w hSw; (try dsimp only at hSw); go_simp; (try with_reducible rfl)
          (try simp only [Act.put, pB9, List.setIfInBounds_toArray, List.set_cons_zero, List.set_cons_succ])
          refine wpAnyH_done (by kernel_rfl) ?_ _
          have J9 := Lib.hid (JJ.out.trans (by first | assumption | exact Kp.drew _))
          go_wp2
          go_roundw
          case rel => exact ⟨k + 1, by omega, by go_num, by rw [NB.out]; first | rfl | simp, J9⟩
          case measure => simp [intOf]; omega
      · have w5' : decide (0 < (k : Int)) = false := decide_eq_false (by omega)
        have w6' : decide (0 < k) = false := decide_eq_false hk0
        have KS := Lib.hid (fun w' (kq : Kp wr w') => show w'.cell? ⟨w.heap.size, 0, none⟩ = some (.bool spf) ∧ w'.cell? ⟨w.heap.size, 1, none⟩ = some (.int .i64 uf) ∧ w'.cell? ⟨w.heap.size, 2, none⟩ = some (.slice adf af.length caf) ∧ w'.cell? ⟨w.heap.size, 3, none⟩ = some (.slice bdf bf.length cbf) ∧ w'.cell? ⟨w.heap.size + 1, 0, none⟩ = some (.int .i64 pS) ∧ w'.cell? ⟨w.heap.size + 1, 1, none⟩ = some (.int .i64 pE) ∧ w'.cell? ⟨b0, off + k * 2, none⟩ = some (.int .i64 x) ∧ w'.cell? ⟨b0, off + k * 2 + 1, none⟩ = some (.int .i64 y) ∧ Kp wr w' from ⟨(HB.out w' (Kr.out.trans kq)).1, (HB.out w' (Kr.out.trans kq)).2.1, (HB.out w' (Kr.out.trans kq)).2.2.1, (HB.out w' (Kr.out.trans kq)).2.2.2.1, (HB.out w' (Kr.out.trans kq)).2.2.2.2.1, (HB.out w' (Kr.out.trans kq)).2.2.2.2.2, cell_up kq d1, cell_up kq d2, kq⟩)
        go_wp2_with fail
        refine wp_region_held_drew (S := fun w' => w'.cell? ⟨w.heap.size, 0, none⟩ = some (.bool spf) ∧ w'.cell? ⟨w.heap.size, 1, none⟩ = some (.int .i64 uf) ∧ w'.cell? ⟨w.heap.size, 2, none⟩ = some (.slice adf af.length caf) ∧ w'.cell? ⟨w.heap.size, 3, none⟩ = some (.slice bdf bf.length cbf) ∧ w'.cell? ⟨w.heap.size + 1, 0, none⟩ = some (.int .i64 pS) ∧ w'.cell? ⟨w.heap.size + 1, 1, none⟩ = some (.int .i64 pE) ∧ w'.cell? ⟨b0, off + k * 2, none⟩ = some (.int .i64 x) ∧ w'.cell? ⟨b0, off + k * 2 + 1, none⟩ = some (.int .i64 y) ∧ Kp wr w') (by kernel_rfl) ?_ (fun hHeld0 => ?_)
        · (try dsimp only); exact KS.out _ (by first | assumption | exact Kp.drew _)
        refine tkW (v := ?_) 0 pA0 rfl (by kernel_rfl) (by kernel_rfl) (by kernel_rfl) (fun _ _ _ h => h) (by rfl) ?_ (by assumption) ?_
        rotate_left
        · intro w hSw; (try dsimp only at hSw); go_simp; (try with_reducible rfl)
        (try simp only [Act.put, pA0, List.setIfInBounds_toArray, List.set_cons_zero, List.set_cons_succ])
        refine tkW (v := ?_) 1 pA1 rfl (by kernel_rfl) (by kernel_rfl) (by kernel_rfl) (fun _ _ _ h => h) (by rfl) ?_ (by assumption) ?_
        rotate_left
        · intro w hSw; (try dsimp only at hSw); go_simp; (try with_reducible rfl)
        (try simp only [Act.put, pA1, List.setIfInBounds_toArray, List.set_cons_zero, List.set_cons_succ])
        refine tkW (v := ?_) 2 pA2 rfl (by kernel_rfl) (by kernel_rfl) (by kernel_rfl) (fun _ _ _ h => h) (by rfl) ?_ (by assumption) ?_
        rotate_left
        · intro w hSw; (try dsimp only at hSw); go_simp; (try with_reducible rfl)
        (try simp only [Act.put, pA2, List.setIfInBounds_toArray, List.set_cons_zero, List.set_cons_succ])
        refine tkW (v := ?_) 3 pA3 rfl (by kernel_rfl) (by kernel_rfl) (by kernel_rfl) (fun _ _ _ h => h) (by rfl) ?_ (by assumption) ?_
        rotate_left
        · intro w hSw; (try dsimp only at hSw); go_simp; (try with_reducible rfl)
        (try simp only [Act.put, pA3, List.setIfInBounds_toArray, List.set_cons_zero, List.set_cons_succ])
        refine tkW (v := ?_) 4 pA4 rfl (by kernel_rfl) (by kernel_rfl) (by kernel_rfl) (fun _ _ _ h => h) (by rfl) ?_ (by assumption) ?_
        rotate_left
        · intro w hSw; (try dsimp only at hSw); go_simp; (try with_reducible rfl)
        (try simp only [Act.put, pA4, List.setIfInBounds_toArray, List.set_cons_zero, List.set_cons_succ])
        refine tkE 5 pA5 rfl (by kernel_rfl) (fun K hK => ?_)
        go_simp
        (refine (X1.out _ (Kr.out.trans (by first | assumption | exact Kp.drew _))).mono ?_; rintro e w' ⟨rfl, k1⟩; have k2 := Kp.trans (show Kp wr _ from (by first | assumption | exact Kp.drew _)) k1; clear k1)
        (try go_wp2_with fail)
        refine hK.out _ _ ?_ (fun hHeld1 => ?_)
        · (try dsimp only); exact KS.out _ (by first | assumption | exact Kp.drew _)
        clear hK K hHeld0
        (try simp only [Act.put, pA5, List.setIfInBounds_toArray, List.set_cons_zero, List.set_cons_succ])
        refine tkW (v := ?_) 6 pA6 rfl (by kernel_rfl) (by kernel_rfl) (by kernel_rfl) (fun _ _ _ h => h) (by rfl) ?_ (by assumption) ?_
        rotate_left
        · intro w hSw; (try dsimp only at hSw); go_simp; (try with_reducible rfl)
        (try simp only [Act.put, pA6, List.setIfInBounds_toArray, List.set_cons_zero, List.set_cons_succ])
        refine tkW (v := ?_) 7 pA7 rfl (by kernel_rfl) (by kernel_rfl) (by kernel_rfl) (fun _ _ _ h => h) (by rfl) ?_ (by assumption) ?_
        rotate_left
        · intro w hSw; (try dsimp only at hSw); go_simp; (try with_reducible rfl)
        (try simp only [Act.put, pA7, List.setIfInBounds_toArray, List.set_cons_zero, List.set_cons_succ])
        refine tkW (v := ?_) 8 pA8 rfl (by kernel_rfl) (by kernel_rfl) (by kernel_rfl) (fun _ _ _ h => h) (by rfl) ?_ (by assumption) ?_
        rotate_left
        · intro w hSw; (try dsimp only at hSw); go_simp; (try with_reducible rfl)
        (try simp only [Act.put, pA8, List.setIfInBounds_toArray, List.set_cons_zero, List.set_cons_succ])
        refine tkW (v := ?_) 9 pA9 rfl (by kernel_rfl) (by kernel_rfl) (by kernel_rfl) (fun _ _ _ h => h) (by rfl) ?_ (by assumption) ?_
        rotate_left
        · intro w hSw; (try dsimp only at hSw); go_simp; (try with_reducible rfl)
        (try simp only [Act.put, pA9, List.setIfInBounds_toArray, List.set_cons_zero, List.set_cons_succ])
        refine tkW (v := ?_) 10 pA10 rfl (by kernel_rfl) (by kernel_rfl) (by kernel_rfl) (fun _ _ _ h => h) (by rfl) ?_ (by assumption) ?_
        rotate_left
        · intro w hSw; (try dsimp only at hSw); go_simp; (try with_reducible rfl)
        (try simp only [Act.put, pA10, List.setIfInBounds_toArray, List.set_cons_zero, List.set_cons_succ])
        refine tkW (v := ?_) 11 pA11 rfl (by kernel_rfl) (by kernel_rfl) (by kernel_rfl) (fun _ _ _ h => h) (by rfl) ?_ (by assumption) ?_
        rotate_left
        · intro w hSw; (try dsimp only at hSw); go_simp; (try with_reducible rfl)
        (try simp only [Act.put, pA11, List.setIfInBounds_toArray, List.set_cons_zero, List.set_cons_succ])
        refine tkW (v := ?_) 12 pA12 rfl (by kernel_rfl) (by kernel_rfl) (by kernel_rfl) (fun _ _ _ h => h) (by rfl) ?_ (by assumption) ?_
        rotate_left
        · intro w hSw; (try dsimp only at hSw); go_simp; (try with_reducible rfl)
        (try simp only [Act.put, pA12, List.setIfInBounds_toArray, List.set_cons_zero, List.set_cons_succ])
        refine tkW (v := ?_) 13 pA13 rfl (by kernel_rfl) (by kernel_rfl) (by kernel_rfl) (fun _ _ _ h => h) (by rfl) ?_ (by assumption) ?_
        rotate_left
        · intro w hSw; (try dsimp only at hSw); go_simp; (try with_reducible rfl)
        (try simp only [Act.put, pA13, List.setIfInBounds_toArray, List.set_cons_zero, List.set_cons_succ])
        refine tkW (v := ?_) 14 pA14 rfl (by kernel_rfl) (by kernel_rfl) (by kernel_rfl) (fun _ _ _ h => h) (by rfl) ?_ (by assumption) ?_
        rotate_left
        · intro w hSw; (try dsimp only at hSw); go_simp; (try with_reducible rfl)
        (try simp only [Act.put, pA14, List.setIfInBounds_toArray, List.set_cons_zero, List.set_cons_succ])
        refine tkW (v := ?_) 15 pA15 rfl (by kernel_rfl) (by kernel_rfl) (by kernel_rfl) (fun _ _ _ h => h) (by rfl) ?_ (by assumption) ?_
        rotate_left
        · intro w hSw; (try dsimp only at hSw); go_simp; (try with_reducible rfl)
        (try simp only [Act.put, pA15, List.setIfInBounds_toArray, List.set_cons_zero, List.set_cons_succ])
        refine tkW (v := ?_) 16 pA16 rfl (by kernel_rfl) (by kernel_rfl) (by kernel_rfl) (fun _ _ _ h => h) (by rfl) ?_ (by assumption) ?_
        rotate_left
        · intro w hSw; (try dsimp only at hSw); go_simp; (try with_reducible rfl)
        (try simp only [Act.put, pA16, List.setIfInBounds_toArray, List.set_cons_zero, List.set_cons_succ])
        refine tkW (v := ?_) 17 pA17 rfl (by kernel_rfl) (by kernel_rfl) (by kernel_rfl) (fun _ _ _ h => h) (by rfl) ?_ (by assumption) ?_
        rotate_left
        · intro w hSw; (try dsimp only at hSw); go_simp; (try with_reducible rfl)
        (try simp only [Act.put, pA17, List.setIfInBounds_toArray, List.set_cons_zero, List.set_cons_succ])
        refine tkW (v := ?_) 18 pA18 rfl (by kernel_rfl) (by kernel_rfl) (by kernel_rfl) (fun _ _ _ h => h) (by rfl) ?_ (by assumption) ?_
        rotate_left
        · intro w hSw; (try dsimp only at hSw); go_simp; (try with_reducible rfl)
        (try simp only [Act.put, pA18, List.setIfInBounds_toArray, List.set_cons_zero, List.set_cons_succ])
        refine tkW (v := ?_) 19 pA19 rfl (by kernel_rfl) (by kernel_rfl) (by kernel_rfl) (fun _ _ _ h => h) (by rfl) ?_ (by assumption) ?_
        rotate_left
        · intro w hSw; (try dsimp only at hSw); go_simp; (try with_reducible rfl)
        (try simp only [Act.put, pA19, List.setIfInBounds_toArray, List.set_cons_zero, List.set_cons_succ])
        refine tkW (v := ?_) 20 pA20 rfl (by kernel_rfl) (by kernel_rfl) (by kernel_rfl) (fun _ _ _ h => h) (by rfl) ?_ (by assumption) ?_
        rotate_left
        · intro w hSw; (try dsimp only at hSw); go_simp; (try with_reducible rfl)
        (try simp only [Act.put, pA20, List.setIfInBounds_toArray, List.set_cons_zero, List.set_cons_succ])
        refine tkW (v := ?_) 21 pA21 rfl (by kernel_rfl) (by kernel_rfl) (by kernel_rfl) (fun _ _ _ h => h) (by rfl) ?_ (by assumption) ?_
        rotate_left
        · intro w hSw; (try dsimp only at hSw); go_simp; (try with_reducible rfl)
        (try simp only [Act.put, pA21, List.setIfInBounds_toArray, List.set_cons_zero, List.set_cons_succ])
        refine tkW (v := ?_) 22 pA22 rfl (by kernel_rfl) (by kernel_rfl) (by kernel_rfl) (fun _ _ _ h => h) (by rfl) ?_ (by assumption) ?_
        rotate_left
        · intro w hSw; (try dsimp only at hSw); go_simp; (try with_reducible rfl)
        (try simp only [Act.put, pA22, List.setIfInBounds_toArray, List.set_cons_zero, List.set_cons_succ])
        refine tkW (v := ?_) 23 pA23 rfl (by kernel_rfl) (by kernel_rfl) (by kernel_rfl) (fun _ _ _ h => h) (by rfl) ?_ (by assumption) ?_
        rotate_left
        · intro w hSw; (try dsimp only at hSw); go_simp; (try with_reducible rfl)
        (try simp only [Act.put, pA23, List.setIfInBounds_toArray, List.set_cons_zero, List.set_cons_succ])
        refine tkU 24 pA24 rfl (by kernel_rfl) (by kernel_rfl) (by kernel_rfl) (fun _ _ _ h => h) (by rfl) (by assumption) ?_
        (try simp only [Act.put, pA24, List.setIfInBounds_toArray, List.set_cons_zero, List.set_cons_succ])
        refine tkU 25 pA25 rfl (by kernel_rfl) (by kernel_rfl) (by kernel_rfl) (fun _ _ _ h => h) (by rfl) (by assumption) ?_
        (try simp only [Act.put, pA25, List.setIfInBounds_toArray, List.set_cons_zero, List.set_cons_succ])
        refine tkU 26 pA26 rfl (by kernel_rfl) (by kernel_rfl) (by kernel_rfl) (fun _ _ _ h => h) (by rfl) (by assumption) ?_
        (try simp only [Act.put, pA26, List.setIfInBounds_toArray, List.set_cons_zero, List.set_cons_succ])
        refine tkU 27 pA27 rfl (by kernel_rfl) (by kernel_rfl) (by kernel_rfl) (fun _ _ _ h => h) (by rfl) (by assumption) ?_
        (try simp only [Act.put, pA27, List.setIfInBounds_toArray, List.set_cons_zero, List.set_cons_succ])
        refine tkU 28 pA28 rfl (by kernel_rfl) (by kernel_rfl) (by kernel_rfl) (fun _ _ _ h => h) (by rfl) (by assumption) ?_
        (try simp only [Act.put, pA28, List.setIfInBounds_toArray, List.set_cons_zero, List.set_cons_succ])
        refine tkU 29 pA29 rfl (by kernel_rfl) (by kernel_rfl) (by kernel_rfl) (fun _ _ _ h => h) (by rfl) (by assumption) ?_
        (try simp only [Act.put, pA29, List.setIfInBounds_toArray, List.set_cons_zero, List.set_cons_succ])
        refine tkU 30 pA30 rfl (by kernel_rfl) (by kernel_rfl) (by kernel_rfl) (fun _ _ _ h => h) (by rfl) (by assumption) ?_
        (try simp only [Act.put, pA30, List.setIfInBounds_toArray, List.set_cons_zero, List.set_cons_succ])
        refine tkU 31 pA31 rfl (by kernel_rfl) (by kernel_rfl) (by kernel_rfl) (fun _ _ _ h => h) (by rfl) (by assumption) ?_
        (try simp only [Act.put, pA31, List.setIfInBounds_toArray, List.set_cons_zero, List.set_cons_succ])
        refine tkU 32 pA32 rfl (by kernel_rfl) (by kernel_rfl) (by kernel_rfl) (fun _ _ _ h => h) (by rfl) (by assumption) ?_
        (try simp only [Act.put, pA32, List.setIfInBounds_toArray, List.set_cons_zero, List.set_cons_succ])
        refine tkU 33 pA33 rfl (by kernel_rfl) (by kernel_rfl) (by kernel_rfl) (fun _ _ _ h => h) (by rfl) (by assumption) ?_
        (try simp only [Act.put, pA33, List.setIfInBounds_toArray, List.set_cons_zero, List.set_cons_succ])
        refine tkU 34 pA34 rfl (by kernel_rfl) (by kernel_rfl) (by kernel_rfl) (fun _ _ _ h => h) (by rfl) (by assumption) ?_
        (try simp only [Act.put, pA34, List.setIfInBounds_toArray, List.set_cons_zero, List.set_cons_succ])
        refine tkW (v := ?_) 35 pA35 rfl (by kernel_rfl) (by kernel_rfl) (by kernel_rfl) (fun _ _ _ h => h) (by rfl) ?_ (by assumption) ?_
        rotate_left
        · intro w hSw; (try dsimp only at hSw); go_simp; (try with_reducible rfl)
        (try simp only [Act.put, pA35, List.setIfInBounds_toArray, List.set_cons_zero, List.set_cons_succ])
        refine tkW (v := ?_) 36 pA36 rfl (by kernel_rfl) (by kernel_rfl) (by kernel_rfl) (fun _ _ _ h => h) (by rfl) ?_ (by assumption) ?_
        rotate_left
        · intro w hSw; (try dsimp only at hSw); go_simp; (try with_reducible rfl)
        (try simp only [Act.put, pA36, List.setIfInBounds_toArray, List.set_cons_zero, List.set_cons_succ])
        refine wpAnyH_done (by kernel_rfl) ?_ _
        clear hk0
        cases b with
        | false =>
          go_wp2_with fail
          obtain ⟨wz, hwz⟩ : ∃ x, x = w' := ⟨_, rfl⟩
          subst hwz
          have k9 := Lib.hid (show Kp wr wz from (by first | assumption | exact Kp.drew _))
          have Kz := Lib.hid (Kr.out.trans k9.out)
          have JJ := Lib.hid (J.out.trans k9.out)
          have D1 := Lib.hid (cell_up k9.out d1)
          have D2 := Lib.hid (cell_up k9.out d2)
          have d1' := D1.out
          have d2' := D2.out
          clear KS
          have KS := Lib.hid (fun w' (kq : Kp wz w') => show w'.cell? ⟨w.heap.size, 0, none⟩ = some (.bool spf) ∧ w'.cell? ⟨w.heap.size, 1, none⟩ = some (.int .i64 uf) ∧ w'.cell? ⟨w.heap.size, 2, none⟩ = some (.slice adf af.length caf) ∧ w'.cell? ⟨w.heap.size, 3, none⟩ = some (.slice bdf bf.length cbf) ∧ w'.cell? ⟨w.heap.size + 1, 0, none⟩ = some (.int .i64 pS) ∧ w'.cell? ⟨w.heap.size + 1, 1, none⟩ = some (.int .i64 pE) ∧ w'.cell? ⟨b0, off + k * 2, none⟩ = some (.int .i64 x) ∧ w'.cell? ⟨b0, off + k * 2 + 1, none⟩ = some (.int .i64 y) ∧ Kp wz w' from ⟨(HB.out w' (Kz.out.trans kq)).1, (HB.out w' (Kz.out.trans kq)).2.1, (HB.out w' (Kz.out.trans kq)).2.2.1, (HB.out w' (Kz.out.trans kq)).2.2.2.1, (HB.out w' (Kz.out.trans kq)).2.2.2.2.1, (HB.out w' (Kz.out.trans kq)).2.2.2.2.2, cell_up kq d1', cell_up kq d2', kq⟩)
          go_wp2_with fail
          refine wp_region_held_drew (S := fun w' => w'.cell? ⟨w.heap.size, 0, none⟩ = some (.bool spf) ∧ w'.cell? ⟨w.heap.size, 1, none⟩ = some (.int .i64 uf) ∧ w'.cell? ⟨w.heap.size, 2, none⟩ = some (.slice adf af.length caf) ∧ w'.cell? ⟨w.heap.size, 3, none⟩ = some (.slice bdf bf.length cbf) ∧ w'.cell? ⟨w.heap.size + 1, 0, none⟩ = some (.int .i64 pS) ∧ w'.cell? ⟨w.heap.size + 1, 1, none⟩ = some (.int .i64 pE) ∧ w'.cell? ⟨b0, off + k * 2, none⟩ = some (.int .i64 x) ∧ w'.cell? ⟨b0, off + k * 2 + 1, none⟩ = some (.int .i64 y) ∧ Kp wz w') (by kernel_rfl) ?_ (fun hHeld0 => ?_)
          · (try dsimp only); exact KS.out _ (by first | assumption | exact Kp.drew _)
          refine tkW (v := ?_) 0 pB0 rfl (by kernel_rfl) (by kernel_rfl) (by kernel_rfl) (fun _ _ _ h => h) (by rfl) ?_ (by assumption) ?_
          rotate_left
          · intro w hSw; (try dsimp only at hSw); go_simp; (try with_reducible rfl)
          (try simp only [Act.put, pB0, List.setIfInBounds_toArray, List.set_cons_zero, List.set_cons_succ])
          refine tkW (v := ?_) 1 pB1 rfl (by kernel_rfl) (by kernel_rfl) (by kernel_rfl) (fun _ _ _ h => h) (by rfl) ?_ (by assumption) ?_
          rotate_left
          · intro w hSw; (try dsimp only at hSw); go_simp; (try with_reducible rfl)
          (try simp only [Act.put, pB1, List.setIfInBounds_toArray, List.set_cons_zero, List.set_cons_succ])
          refine tkW (v := ?_) 2 pB2 rfl (by kernel_rfl) (by kernel_rfl) (by kernel_rfl) (fun _ _ _ h => h) (by rfl) ?_ (by assumption) ?_
          rotate_left
          · intro w hSw; (try dsimp only at hSw); go_simp; (try with_reducible rfl)
          (try simp only [Act.put, pB2, List.setIfInBounds_toArray, List.set_cons_zero, List.set_cons_succ])
          refine tkW (v := ?_) 3 pB3 rfl (by kernel_rfl) (by kernel_rfl) (by kernel_rfl) (fun _ _ _ h => h) (by rfl) ?_ (by assumption) ?_
          rotate_left
          · intro w hSw; (try dsimp only at hSw); go_simp; (try with_reducible rfl)
          (try simp only [Act.put, pB3, List.setIfInBounds_toArray, List.set_cons_zero, List.set_cons_succ])
          refine tkW (v := ?_) 4 pB4 rfl (by kernel_rfl) (by kernel_rfl) (by kernel_rfl) (fun _ _ _ h => h) (by rfl) ?_ (by assumption) ?_
          rotate_left
          · intro w hSw; (try dsimp only at hSw); go_simp; (try with_reducible rfl)
          (try simp only [Act.put, pB4, List.setIfInBounds_toArray, List.set_cons_zero, List.set_cons_succ])
          refine tkW (v := ?_) 5 pB5 rfl (by kernel_rfl) (by kernel_rfl) (by kernel_rfl) (fun _ _ _ h => h) (by rfl) ?_ (by assumption) ?_
          rotate_left
          · intro w hSw; (try dsimp only at hSw); go_simp; (try with_reducible rfl)
          (try simp only [Act.put, pB5, List.setIfInBounds_toArray, List.set_cons_zero, List.set_cons_succ])
          refine tkW (v := ?_) 6 pB6 rfl (by kernel_rfl) (by kernel_rfl) (by kernel_rfl) (fun _ _ _ h => h) (by rfl) ?_ (by assumption) ?_
          rotate_left
          · intro w hSw; (try dsimp only at hSw); go_simp; (try with_reducible rfl)
          (try simp only [Act.put, pB6, List.setIfInBounds_toArray, List.set_cons_zero, List.set_cons_succ])
          refine tkW (v := ?_) 7 pB7 rfl (by kernel_rfl) (by kernel_rfl) (by kernel_rfl) (fun _ _ _ h => h) (by rfl) ?_ (by assumption) ?_
          rotate_left
          · intro w hSw; (try dsimp only at hSw); go_simp; (try with_reducible rfl)
          (try simp only [Act.put, pB7, List.setIfInBounds_toArray, List.set_cons_zero, List.set_cons_succ])
          refine tkW (v := ?_) 8 pB8 rfl (by kernel_rfl) (by kernel_rfl) (by kernel_rfl) (fun _ _ _ h => h) (by rfl) ?_ (by assumption) ?_
          rotate_left
          · intro w hSw; (try dsimp only at hSw); go_simp; (try with_reducible rfl)
          (try simp only [Act.put, pB8, List.setIfInBounds_toArray, List.set_cons_zero, List.set_cons_succ])
          refine tkW (v := ?_) 9 pB9 rfl (by kernel_rfl) (by kernel_rfl) (by kernel_rfl) (fun _ _ _ h => h) (by rfl) ?_ (by assumption) ?_
          rotate_left
          · intro w hSw; (try dsimp only at hSw); go_simp; (try with_reducible rfl)
          (try simp only [Act.put, pB9, List.setIfInBounds_toArray, List.set_cons_zero, List.set_cons_succ])
          refine wpAnyH_done (by kernel_rfl) ?_ _
          have J9 := Lib.hid (JJ.out.trans (by first | assumption | exact Kp.drew _))
          go_wp2
          go_roundw
          case rel => exact ⟨k + 1, by omega, by go_num, by rw [NB.out]; first | rfl | simp, J9⟩
          case measure => simp [intOf]; omega
        | true =>
          go_wp2_with fail
          obtain ⟨wz, hwz⟩ : ∃ x, x = w' := ⟨_, rfl⟩
          subst hwz
          have k9 := Lib.hid (show Kp wr wz from (by first | assumption | exact Kp.drew _))
          have Kz := Lib.hid (Kr.out.trans k9.out)
          have JJ := Lib.hid (J.out.trans k9.out)
          have D1 := Lib.hid (cell_up k9.out d1)
          have D2 := Lib.hid (cell_up k9.out d2)
          have d1' := D1.out
          have d2' := D2.out
          clear KS
          have KS := Lib.hid (fun w' (kq : Kp wz w') => show w'.cell? ⟨w.heap.size, 0, none⟩ = some (.bool spf) ∧ w'.cell? ⟨w.heap.size, 1, none⟩ = some (.int .i64 uf) ∧ w'.cell? ⟨w.heap.size, 2, none⟩ = some (.slice adf af.length caf) ∧ w'.cell? ⟨w.heap.size, 3, none⟩ = some (.slice bdf bf.length cbf) ∧ w'.cell? ⟨w.heap.size + 1, 0, none⟩ = some (.int .i64 pS) ∧ w'.cell? ⟨w.heap.size + 1, 1, none⟩ = some (.int .i64 pE) ∧ w'.cell? ⟨b0, off + k * 2, none⟩ = some (.int .i64 x) ∧ w'.cell? ⟨b0, off + k * 2 + 1, none⟩ = some (.int .i64 y) ∧ Kp wz w' from ⟨(HB.out w' (Kz.out.trans kq)).1, (HB.out w' (Kz.out.trans kq)).2.1, (HB.out w' (Kz.out.trans kq)).2.2.1, (HB.out w' (Kz.out.trans kq)).2.2.2.1, (HB.out w' (Kz.out.trans kq)).2.2.2.2.1, (HB.out w' (Kz.out.trans kq)).2.2.2.2.2, cell_up kq d1', cell_up kq d2', kq⟩)
          go_wp2_with fail
          refine wp_region_held_drew (S := fun w' => w'.cell? ⟨w.heap.size, 0, none⟩ = some (.bool spf) ∧ w'.cell? ⟨w.heap.size, 1, none⟩ = some (.int .i64 uf) ∧ w'.cell? ⟨w.heap.size, 2, none⟩ = some (.slice adf af.length caf) ∧ w'.cell? ⟨w.heap.size, 3, none⟩ = some (.slice bdf bf.length cbf) ∧ w'.cell? ⟨w.heap.size + 1, 0, none⟩ = some (.int .i64 pS) ∧ w'.cell? ⟨w.heap.size + 1, 1, none⟩ = some (.int .i64 pE) ∧ w'.cell? ⟨b0, off + k * 2, none⟩ = some (.int .i64 x) ∧ w'.cell? ⟨b0, off + k * 2 + 1, none⟩ = some (.int .i64 y) ∧ Kp wz w') (by kernel_rfl) ?_ (fun hHeld0 => ?_)
          · (try dsimp only); exact KS.out _ (by first | assumption | exact Kp.drew _)
          refine tkW (v := ?_) 0 pB0 rfl (by kernel_rfl) (by kernel_rfl) (by kernel_rfl) (fun _ _ _ h => h) (by rfl) ?_ (by assumption) ?_
          rotate_left
          · intro w hSw; (try dsimp only at hSw); go_simp; (try with_reducible rfl)
          (try simp only [Act.put, pB0, List.setIfInBounds_toArray, List.set_cons_zero, List.set_cons_succ])
          refine tkW (v := ?_) 1 pB1 rfl (by kernel_rfl) (by kernel_rfl) (by kernel_rfl) (fun _ _ _ h => h) (by rfl) ?_ (by assumption) ?_
          rotate_left
          · intro w hSw; (try dsimp only at hSw); go_simp; (try with_reducible rfl)
          (try simp only [Act.put, pB1, List.setIfInBounds_toArray, List.set_cons_zero, List.set_cons_succ])
          refine tkU 2 pB2 rfl (by kernel_rfl) (by kernel_rfl) (by kernel_rfl) (fun _ _ _ h => h) (by rfl) (by assumption) ?_
          (try simp only [Act.put, pB2, List.setIfInBounds_toArray, List.set_cons_zero, List.set_cons_succ])
          refine tkU 3 pB3 rfl (by kernel_rfl) (by kernel_rfl) (by kernel_rfl) (fun _ _ _ h => h) (by rfl) (by assumption) ?_
          (try simp only [Act.put, pB3, List.setIfInBounds_toArray, List.set_cons_zero, List.set_cons_succ])
          refine tkU 4 pB4 rfl (by kernel_rfl) (by kernel_rfl) (by kernel_rfl) (fun _ _ _ h => h) (by rfl) (by assumption) ?_
          (try simp only [Act.put, pB4, List.setIfInBounds_toArray, List.set_cons_zero, List.set_cons_succ])
          refine tkU 5 pB5 rfl (by kernel_rfl) (by kernel_rfl) (by kernel_rfl) (fun _ _ _ h => h) (by rfl) (by assumption) ?_
          (try simp only [Act.put, pB5, List.setIfInBounds_toArray, List.set_cons_zero, List.set_cons_succ])
          refine tkU 6 pB6 rfl (by kernel_rfl) (by kernel_rfl) (by kernel_rfl) (fun _ _ _ h => h) (by rfl) (by assumption) ?_
          (try simp only [Act.put, pB6, List.setIfInBounds_toArray, List.set_cons_zero, List.set_cons_succ])
          refine tkU 7 pB7 rfl (by kernel_rfl) (by kernel_rfl) (by kernel_rfl) (fun _ _ _ h => h) (by rfl) (by assumption) ?_
          (try simp only [Act.put, pB7, List.setIfInBounds_toArray, List.set_cons_zero, List.set_cons_succ])
          refine tkW (v := ?_) 8 pB8 rfl (by kernel_rfl) (by kernel_rfl) (by kernel_rfl) (fun _ _ _ h => h) (by rfl) ?_ (by assumption) ?_
          rotate_left
          · intro w hSw; (try dsimp only at hSw); go_simp; (try with_reducible rfl)
          (try simp only [Act.put, pB8, List.setIfInBounds_toArray, List.set_cons_zero, List.set_cons_succ])
          refine tkW (v := ?_) 9 pB9 rfl (by kernel_rfl) (by kernel_rfl) (by kernel_rfl) (fun _ _ _ h => h) (by rfl) ?_ (by assumption) ?_
          rotate_left
          · intro w hSw; (try dsimp only at hSw); go_simp; (try with_reducible rfl)
          (try simp only [Act.put, pB9, List.setIfInBounds_toArray, List.set_cons_zero, List.set_cons_succ])
          refine wpAnyH_done (by kernel_rfl) ?_ _
          have J9 := Lib.hid (JJ.out.trans (by first | assumption | exact Kp.drew _))
          go_wp2
          go_roundw
          case rel => exact ⟨k + 1, by omega, by go_num, by rw [NB.out]; first | rfl | simp, J9⟩
          case measure => simp [intOf]; omega
    · obtain rfl : k = P.length := by omega
      have h1 := END.out.1
      have h2 := END.out.2
      have CP := Lib.hid (fun w1 (kk : Kp W0 w1) => CH.out pS pE w1 kk hp1 hp2 hp3 hp4)
      have EQ0 : ((P.length : Int) == 0) = decide (P.length = 0) := len_zero _
      have gt1 : decide (1000 < (P.length : Int)) = false := decide_eq_false (by omega)
      have gt2 : decide (1000 < P.length) = false := decide_eq_false (by omega)
      generalize hasF F pS pE = hb at *
      generalize inP P (pS, pE) P.length = b at *
      generalize decide (P.length = 0) = e0 at *
      have ee : (e0 != e0) = false := by simp
      have H1 := Lib.hid h1
      have H2 := Lib.hid h2
      clear h1 h2
      go_wp2_with fail
      refine (CE.out _ (by first | with_reducible exact Kr.out | with_reducible exact Kr.out.trans (Kp.alloc _ _) | with_reducible exact (Kr.out.trans (Kp.alloc _ _)).trans (Kp.alloc _ _) | with_reducible exact ((Kr.out.trans (Kp.alloc _ _)).trans (Kp.alloc _ _)).trans (Kp.alloc _ _) | with_reducible exact Kr.out.trans (Kp.drew _) | with_reducible exact Kr.out.trans (Kp.drewN _ _))).mono ?_
      rintro e w4 ⟨rfl, kk⟩
      have K4 := Lib.hid ((show Kp W0 _ from (by first | with_reducible exact Kr.out | with_reducible exact Kr.out.trans (Kp.alloc _ _) | with_reducible exact (Kr.out.trans (Kp.alloc _ _)).trans (Kp.alloc _ _) | with_reducible exact ((Kr.out.trans (Kp.alloc _ _)).trans (Kp.alloc _ _)).trans (Kp.alloc _ _) | with_reducible exact Kr.out.trans (Kp.drew _) | with_reducible exact Kr.out.trans (Kp.drewN _ _))).trans kk)
      have J4 := Lib.hid (J.out.trans ((show Kp wr _ from (by first | with_reducible exact Kp.refl _ | with_reducible exact Kp.alloc _ _ | with_reducible exact (Kp.alloc _ _).trans (Kp.alloc _ _) | with_reducible exact ((Kp.alloc _ _).trans (Kp.alloc _ _)).trans (Kp.alloc _ _) | with_reducible exact Kp.drew _ | with_reducible exact Kp.drewN _ _)).trans kk))
      clear kk c0 c1 c2 c3 c4 c5
      obtain ⟨c0, c1, c2, c3, c4, c5⟩ := HB.out w4 K4.out
      cases b with
      | true =>
        obtain rfl := H1.out rfl
        have KS := Lib.hid (fun w' (kq : Kp w4 w') => show w'.cell? ⟨w.heap.size, 0, none⟩ = some (.bool spf) ∧ w'.cell? ⟨w.heap.size, 1, none⟩ = some (.int .i64 uf) ∧ w'.cell? ⟨w.heap.size, 2, none⟩ = some (.slice adf af.length caf) ∧ w'.cell? ⟨w.heap.size, 3, none⟩ = some (.slice bdf bf.length cbf) ∧ w'.cell? ⟨w.heap.size + 1, 0, none⟩ = some (.int .i64 pS) ∧ w'.cell? ⟨w.heap.size + 1, 1, none⟩ = some (.int .i64 pE) ∧ Kp w4 w' from ⟨(HB.out w' (K4.out.trans kq)).1, (HB.out w' (K4.out.trans kq)).2.1, (HB.out w' (K4.out.trans kq)).2.2.1, (HB.out w' (K4.out.trans kq)).2.2.2.1, (HB.out w' (K4.out.trans kq)).2.2.2.2.1, (HB.out w' (K4.out.trans kq)).2.2.2.2.2, kq⟩)
        go_wp2_with fail
        refine wp_region_held_drew (S := fun w' => w'.cell? ⟨w.heap.size, 0, none⟩ = some (.bool spf) ∧ w'.cell? ⟨w.heap.size, 1, none⟩ = some (.int .i64 uf) ∧ w'.cell? ⟨w.heap.size, 2, none⟩ = some (.slice adf af.length caf) ∧ w'.cell? ⟨w.heap.size, 3, none⟩ = some (.slice bdf bf.length cbf) ∧ w'.cell? ⟨w.heap.size + 1, 0, none⟩ = some (.int .i64 pS) ∧ w'.cell? ⟨w.heap.size + 1, 1, none⟩ = some (.int .i64 pE) ∧ Kp w4 w') (by kernel_rfl) ?_ (fun hHeld0 => ?_)
        · (try dsimp only); exact KS.out _ (by first | assumption | exact Kp.drew _)
        refine tkW (v := ?_) 0 pC0 rfl (by kernel_rfl) (by kernel_rfl) (by kernel_rfl) (fun _ _ _ h => h) (by rfl) ?_ (by assumption) ?_
        rotate_left
        · intro w hSw; (try dsimp only at hSw); go_simp; (try with_reducible rfl)
        (try simp only [Act.put, pC0, List.setIfInBounds_toArray, List.set_cons_zero, List.set_cons_succ])
        refine tkW (v := ?_) 1 pC1 rfl (by kernel_rfl) (by kernel_rfl) (by kernel_rfl) (fun _ _ _ h => h) (by rfl) ?_ (by assumption) ?_
        rotate_left
        · intro w hSw; (try dsimp only at hSw); go_simp; (try with_reducible rfl)
        (try simp only [Act.put, pC1, List.setIfInBounds_toArray, List.set_cons_zero, List.set_cons_succ])
        refine tkW (v := ?_) 2 pC2 rfl (by kernel_rfl) (by kernel_rfl) (by kernel_rfl) (fun _ _ _ h => h) (by rfl) ?_ (by assumption) ?_
        rotate_left
        · intro w hSw; (try dsimp only at hSw); go_simp; (try with_reducible rfl)
        (try simp only [Act.put, pC2, List.setIfInBounds_toArray, List.set_cons_zero, List.set_cons_succ])
        refine tkW (v := ?_) 3 pC3 rfl (by kernel_rfl) (by kernel_rfl) (by kernel_rfl) (fun _ _ _ h => h) (by rfl) ?_ (by assumption) ?_
        rotate_left
        · intro w hSw; (try dsimp only at hSw); go_simp; (try with_reducible rfl)
        (try simp only [Act.put, pC3, List.setIfInBounds_toArray, List.set_cons_zero, List.set_cons_succ])
        refine tkW (v := ?_) 5 pC5 rfl (by kernel_rfl) (by kernel_rfl) (by kernel_rfl) (fun _ _ _ h => h) (by rfl) ?_ (by assumption) ?_
        rotate_left
        · intro w hSw; (try dsimp only at hSw); go_simp; (try with_reducible rfl)
        (try simp only [Act.put, pC5, List.setIfInBounds_toArray, List.set_cons_zero, List.set_cons_succ])
        refine tkE 4 pC4 rfl (by kernel_rfl) (fun K hK => ?_)
        go_simp
        (refine (CP.out _ (K4.out.trans (by first | assumption | exact Kp.drew _))).mono ?_; rintro e w' ⟨rfl, k1⟩; have k2 := Kp.trans (show Kp w4 _ from (by first | assumption | exact Kp.drew _)) k1; clear k1)
        (try go_wp2_with fail)
        refine hK.out _ _ ?_ (fun hHeld1 => ?_)
        · (try dsimp only); exact KS.out _ (by first | assumption | exact Kp.drew _)
        clear hK K hHeld0
        (try simp only [Act.put, pC4, List.setIfInBounds_toArray, List.set_cons_zero, List.set_cons_succ])
        refine tkW (v := ?_) 6 pC6 rfl (by kernel_rfl) (by kernel_rfl) (by kernel_rfl) (fun _ _ _ h => h) (by rfl) ?_ (by assumption) ?_
        rotate_left
        · intro w hSw; (try dsimp only at hSw); go_simp; (try with_reducible rfl)
        (try simp only [Act.put, pC6, List.setIfInBounds_toArray, List.set_cons_zero, List.set_cons_succ])
        refine tkU 7 pC7 rfl (by kernel_rfl) (by kernel_rfl) (by kernel_rfl) (fun _ _ _ h => h) (by rfl) (by assumption) ?_
        (try simp only [Act.put, pC7, List.setIfInBounds_toArray, List.set_cons_zero, List.set_cons_succ])
        refine tkU 8 pC8 rfl (by kernel_rfl) (by kernel_rfl) (by kernel_rfl) (fun _ _ _ h => h) (by rfl) (by assumption) ?_
        (try simp only [Act.put, pC8, List.setIfInBounds_toArray, List.set_cons_zero, List.set_cons_succ])
        refine tkU 9 pC9 rfl (by kernel_rfl) (by kernel_rfl) (by kernel_rfl) (fun _ _ _ h => h) (by rfl) (by assumption) ?_
        (try simp only [Act.put, pC9, List.setIfInBounds_toArray, List.set_cons_zero, List.set_cons_succ])
        refine tkU 10 pC10 rfl (by kernel_rfl) (by kernel_rfl) (by kernel_rfl) (fun _ _ _ h => h) (by rfl) (by assumption) ?_
        (try simp only [Act.put, pC10, List.setIfInBounds_toArray, List.set_cons_zero, List.set_cons_succ])
        refine tkU 11 pC11 rfl (by kernel_rfl) (by kernel_rfl) (by kernel_rfl) (fun _ _ _ h => h) (by rfl) (by assumption) ?_
        (try simp only [Act.put, pC11, List.setIfInBounds_toArray, List.set_cons_zero, List.set_cons_succ])
        refine tkU 12 pC12 rfl (by kernel_rfl) (by kernel_rfl) (by kernel_rfl) (fun _ _ _ h => h) (by rfl) (by assumption) ?_
        (try simp only [Act.put, pC12, List.setIfInBounds_toArray, List.set_cons_zero, List.set_cons_succ])
        refine tkU 13 pC13 rfl (by kernel_rfl) (by kernel_rfl) (by kernel_rfl) (fun _ _ _ h => h) (by rfl) (by assumption) ?_
        (try simp only [Act.put, pC13, List.setIfInBounds_toArray, List.set_cons_zero, List.set_cons_succ])
        refine tkU 14 pC14 rfl (by kernel_rfl) (by kernel_rfl) (by kernel_rfl) (fun _ _ _ h => h) (by rfl) (by assumption) ?_
        (try simp only [Act.put, pC14, List.setIfInBounds_toArray, List.set_cons_zero, List.set_cons_succ])
        refine tkU 15 pC15 rfl (by kernel_rfl) (by kernel_rfl) (by kernel_rfl) (fun _ _ _ h => h) (by rfl) (by assumption) ?_
        (try simp only [Act.put, pC15, List.setIfInBounds_toArray, List.set_cons_zero, List.set_cons_succ])
        refine tkU 16 pC16 rfl (by kernel_rfl) (by kernel_rfl) (by kernel_rfl) (fun _ _ _ h => h) (by rfl) (by assumption) ?_
        (try simp only [Act.put, pC16, List.setIfInBounds_toArray, List.set_cons_zero, List.set_cons_succ])
        refine tkU 17 pC17 rfl (by kernel_rfl) (by kernel_rfl) (by kernel_rfl) (fun _ _ _ h => h) (by rfl) (by assumption) ?_
        (try simp only [Act.put, pC17, List.setIfInBounds_toArray, List.set_cons_zero, List.set_cons_succ])
        refine tkU 18 pC18 rfl (by kernel_rfl) (by kernel_rfl) (by kernel_rfl) (fun _ _ _ h => h) (by rfl) (by assumption) ?_
        (try simp only [Act.put, pC18, List.setIfInBounds_toArray, List.set_cons_zero, List.set_cons_succ])
        refine tkU 19 pC19 rfl (by kernel_rfl) (by kernel_rfl) (by kernel_rfl) (fun _ _ _ h => h) (by rfl) (by assumption) ?_
        (try simp only [Act.put, pC19, List.setIfInBounds_toArray, List.set_cons_zero, List.set_cons_succ])
        refine tkU 20 pC20 rfl (by kernel_rfl) (by kernel_rfl) (by kernel_rfl) (fun _ _ _ h => h) (by rfl) (by assumption) ?_
        (try simp only [Act.put, pC20, List.setIfInBounds_toArray, List.set_cons_zero, List.set_cons_succ])
        refine tkU 21 pC21 rfl (by kernel_rfl) (by kernel_rfl) (by kernel_rfl) (fun _ _ _ h => h) (by rfl) (by assumption) ?_
        (try simp only [Act.put, pC21, List.setIfInBounds_toArray, List.set_cons_zero, List.set_cons_succ])
        refine tkW (v := ?_) 22 pC22 rfl (by kernel_rfl) (by kernel_rfl) (by kernel_rfl) (fun _ _ _ h => h) (by rfl) ?_ (by assumption) ?_
        rotate_left
        · intro w hSw; (try dsimp only at hSw); go_simp; (try with_reducible rfl)
        (try simp only [Act.put, pC22, List.setIfInBounds_toArray, List.set_cons_zero, List.set_cons_succ])
        refine tkW (v := ?_) 23 pC23 rfl (by kernel_rfl) (by kernel_rfl) (by kernel_rfl) (fun _ _ _ h => h) (by rfl) ?_ (by assumption) ?_
        rotate_left
        · intro w hSw; (try dsimp only at hSw); go_simp; (try with_reducible rfl)
        (try simp only [Act.put, pC23, List.setIfInBounds_toArray, List.set_cons_zero, List.set_cons_succ])
        refine tkW (v := ?_) 24 pC24 rfl (by kernel_rfl) (by kernel_rfl) (by kernel_rfl) (fun _ _ _ h => h) (by rfl) ?_ (by assumption) ?_
        rotate_left
        · intro w hSw; (try dsimp only at hSw); go_simp; (try with_reducible rfl)
        (try simp only [Act.put, pC24, List.setIfInBounds_toArray, List.set_cons_zero, List.set_cons_succ])
        refine tkW (v := ?_) 25 pC25 rfl (by kernel_rfl) (by kernel_rfl) (by kernel_rfl) (fun _ _ _ h => h) (by rfl) ?_ (by assumption) ?_
        rotate_left
        · intro w hSw; (try dsimp only at hSw); go_simp; (try with_reducible rfl)
        (try simp only [Act.put, pC25, List.setIfInBounds_toArray, List.set_cons_zero, List.set_cons_succ])
        refine tkW (v := ?_) 26 pC26 rfl (by kernel_rfl) (by kernel_rfl) (by kernel_rfl) (fun _ _ _ h => h) (by rfl) ?_ (by assumption) ?_
        rotate_left
        · intro w hSw; (try dsimp only at hSw); go_simp; (try with_reducible rfl)
        (try simp only [Act.put, pC26, List.setIfInBounds_toArray, List.set_cons_zero, List.set_cons_succ])
        refine tkE 27 pC27 rfl (by kernel_rfl) (fun K hK => ?_)
        go_simp
        (refine (P0.out _ (K4.out.trans (by first | assumption | exact Kp.drew _))).mono ?_; rintro e w' ⟨ad0, cp0, rfl, k1⟩; have k2 := Kp.trans (show Kp w4 _ from (by first | assumption | exact Kp.drew _)) k1; clear k1)
        (try go_wp2_with fail)
        refine hK.out _ _ ?_ (fun hHeld2 => ?_)
        · (try dsimp only); exact KS.out _ (by first | assumption | exact Kp.drew _)
        clear hK K hHeld1
        (try simp only [Act.put, pC27, List.setIfInBounds_toArray, List.set_cons_zero, List.set_cons_succ])
        refine tkW (v := ?_) 28 pC28 rfl (by kernel_rfl) (by kernel_rfl) (by kernel_rfl) (fun _ _ _ h => h) (by rfl) ?_ (by assumption) ?_
        rotate_left
        · intro w hSw; (try dsimp only at hSw); go_simp; (try with_reducible rfl)
        (try simp only [Act.put, pC28, List.setIfInBounds_toArray, List.set_cons_zero, List.set_cons_succ])
        refine tkW (v := ?_) 29 pC29 rfl (by kernel_rfl) (by kernel_rfl) (by kernel_rfl) (fun _ _ _ h => h) (by rfl) ?_ (by assumption) ?_
        rotate_left
        · intro w hSw; (try dsimp only at hSw); go_simp; (try with_reducible rfl)
        (try simp only [Act.put, pC29, List.setIfInBounds_toArray, List.set_cons_zero, List.set_cons_succ])
        refine tkW (v := ?_) 30 pC30 rfl (by kernel_rfl) (by kernel_rfl) (by kernel_rfl) (fun _ _ _ h => h) (by rfl) ?_ (by assumption) ?_
        rotate_left
        · intro w hSw; (try dsimp only at hSw); go_simp; (try with_reducible rfl)
        (try simp only [Act.put, pC30, List.setIfInBounds_toArray, List.set_cons_zero, List.set_cons_succ])
        refine tkW (v := ?_) 31 pC31 rfl (by kernel_rfl) (by kernel_rfl) (by kernel_rfl) (fun _ _ _ h => h) (by rfl) ?_ (by assumption) ?_
        rotate_left
        · intro w hSw; (try dsimp only at hSw); go_simp; (try with_reducible rfl)
        (try simp only [Act.put, pC31, List.setIfInBounds_toArray, List.set_cons_zero, List.set_cons_succ])
        refine wpAnyH_done (by kernel_rfl) ?_ _
        go_wp2
        go_ret
        exact ⟨rfl, K00.out.trans (K4.out.trans (by first | assumption | exact Kp.drew _))⟩
      | false =>
        by_cases hm : P.length = 1000
        · have q1 : ((P.length : Int) == 1000) = true := by rw [hm]; rfl
          rcases RR.out.kp J4.out with ⟨_, _, _, e⟩ | ⟨b0, off, cap, ev, hc, hm', hx⟩
          · rw [e] at hm; simp at hm
          cases ev
          obtain ⟨d1, d2⟩ := hx 999 (by omega)
          obtain ⟨u, v, ee9⟩ : ∃ u v, at_ P 999 = (u, v) := ⟨_, _, rfl⟩
          rw [ee9] at d1 d2
          have h2 := H2.out
          rw [ee9] at h2
          simp only [Nat.reduceMul] at d1 d2
          have z1 : (999 : Int) < (P.length : Int) := by omega
          have z2 : 999 < P.length := by omega
          have LSS := fun w1 => less_any (u, v) (pS, pE) w1
          have h3 : hb = true → ltB (u, v) (pS, pE) = true := fun h => (h2 rfl h).2
          clear hx hc hm' ee9 h2 hm H1 H2
          generalize ltB (u, v) (pS, pE) = lt at *
          have LS := Lib.hid LSS
          have H3 := Lib.hid h3
          clear LSS h3
          simp only at LS
          cases lt with
          | true =>
            clear H3
            cases hb with
            | true =>
              have KS := Lib.hid (fun w' (kq : Kp w4 w') => show w'.cell? ⟨w.heap.size, 0, none⟩ = some (.bool spf) ∧ w'.cell? ⟨w.heap.size, 1, none⟩ = some (.int .i64 uf) ∧ w'.cell? ⟨w.heap.size, 2, none⟩ = some (.slice adf af.length caf) ∧ w'.cell? ⟨w.heap.size, 3, none⟩ = some (.slice bdf bf.length cbf) ∧ w'.cell? ⟨w.heap.size + 1, 0, none⟩ = some (.int .i64 pS) ∧ w'.cell? ⟨w.heap.size + 1, 1, none⟩ = some (.int .i64 pE) ∧ w'.cell? ⟨b0, off + 1998, none⟩ = some (.int .i64 u) ∧ w'.cell? ⟨b0, off + 1998 + 1, none⟩ = some (.int .i64 v) ∧ Kp w4 w' from ⟨(HB.out w' (K4.out.trans kq)).1, (HB.out w' (K4.out.trans kq)).2.1, (HB.out w' (K4.out.trans kq)).2.2.1, (HB.out w' (K4.out.trans kq)).2.2.2.1, (HB.out w' (K4.out.trans kq)).2.2.2.2.1, (HB.out w' (K4.out.trans kq)).2.2.2.2.2, cell_up kq d1, cell_up kq d2, kq⟩)
              go_wp2_with fail
              refine wp_region_held_drew (S := fun w' => w'.cell? ⟨w.heap.size, 0, none⟩ = some (.bool spf) ∧ w'.cell? ⟨w.heap.size, 1, none⟩ = some (.int .i64 uf) ∧ w'.cell? ⟨w.heap.size, 2, none⟩ = some (.slice adf af.length caf) ∧ w'.cell? ⟨w.heap.size, 3, none⟩ = some (.slice bdf bf.length cbf) ∧ w'.cell? ⟨w.heap.size + 1, 0, none⟩ = some (.int .i64 pS) ∧ w'.cell? ⟨w.heap.size + 1, 1, none⟩ = some (.int .i64 pE) ∧ w'.cell? ⟨b0, off + 1998, none⟩ = some (.int .i64 u) ∧ w'.cell? ⟨b0, off + 1998 + 1, none⟩ = some (.int .i64 v) ∧ Kp w4 w') (by kernel_rfl) ?_ (fun hHeld0 => ?_)
              · (try dsimp only); exact KS.out _ (by first | assumption | exact Kp.drew _)
              refine tkW (v := ?_) 0 pC0 rfl (by kernel_rfl) (by kernel_rfl) (by kernel_rfl) (fun _ _ _ h => h) (by rfl) ?_ (by assumption) ?_
              rotate_left
              · intro w hSw; (try dsimp only at hSw); go_simp; (try with_reducible rfl)
              (try simp only [Act.put, pC0, List.setIfInBounds_toArray, List.set_cons_zero, List.set_cons_succ])
              refine tkW (v := ?_) 1 pC1 rfl (by kernel_rfl) (by kernel_rfl) (by kernel_rfl) (fun _ _ _ h => h) (by rfl) ?_ (by assumption) ?_
              rotate_left
              · intro w hSw; (try dsimp only at hSw); go_simp; (try with_reducible rfl)
              (try simp only [Act.put, pC1, List.setIfInBounds_toArray, List.set_cons_zero, List.set_cons_succ])
              refine tkW (v := ?_) 2 pC2 rfl (by kernel_rfl) (by kernel_rfl) (by kernel_rfl) (fun _ _ _ h => h) (by rfl) ?_ (by assumption) ?_
              rotate_left
              · intro w hSw; (try dsimp only at hSw); go_simp; (try with_reducible rfl)
              (try simp only [Act.put, pC2, List.setIfInBounds_toArray, List.set_cons_zero, List.set_cons_succ])
              refine tkW (v := ?_) 3 pC3 rfl (by kernel_rfl) (by kernel_rfl) (by kernel_rfl) (fun _ _ _ h => h) (by rfl) ?_ (by assumption) ?_
              rotate_left
              · intro w hSw; (try dsimp only at hSw); go_simp; (try with_reducible rfl)
              (try simp only [Act.put, pC3, List.setIfInBounds_toArray, List.set_cons_zero, List.set_cons_succ])
              refine tkW (v := ?_) 5 pC5 rfl (by kernel_rfl) (by kernel_rfl) (by kernel_rfl) (fun _ _ _ h => h) (by rfl) ?_ (by assumption) ?_
              rotate_left
              · intro w hSw; (try dsimp only at hSw); go_simp; (try with_reducible rfl)
              (try simp only [Act.put, pC5, List.setIfInBounds_toArray, List.set_cons_zero, List.set_cons_succ])
              refine tkE 4 pC4 rfl (by kernel_rfl) (fun K hK => ?_)
              go_simp
              (refine (CP.out _ (K4.out.trans (by first | assumption | exact Kp.drew _))).mono ?_; rintro e w' ⟨rfl, k1⟩; have k2 := Kp.trans (show Kp w4 _ from (by first | assumption | exact Kp.drew _)) k1; clear k1)
              (try go_wp2_with fail)
              refine hK.out _ _ ?_ (fun hHeld1 => ?_)
              · (try dsimp only); exact KS.out _ (by first | assumption | exact Kp.drew _)
              clear hK K hHeld0
              (try simp only [Act.put, pC4, List.setIfInBounds_toArray, List.set_cons_zero, List.set_cons_succ])
              refine tkW (v := ?_) 6 pC6 rfl (by kernel_rfl) (by kernel_rfl) (by kernel_rfl) (fun _ _ _ h => h) (by rfl) ?_ (by assumption) ?_
              rotate_left
              · intro w hSw; (try dsimp only at hSw); go_simp; (try with_reducible rfl)
              (try simp only [Act.put, pC6, List.setIfInBounds_toArray, List.set_cons_zero, List.set_cons_succ])
              refine tkW (v := ?_) 7 pC7 rfl (by kernel_rfl) (by kernel_rfl) (by kernel_rfl) (fun _ _ _ h => h) (by rfl) ?_ (by assumption) ?_
              rotate_left
              · intro w hSw; (try dsimp only at hSw); go_simp; (try with_reducible rfl)
              (try simp only [Act.put, pC7, List.setIfInBounds_toArray, List.set_cons_zero, List.set_cons_succ])
              refine tkW (v := ?_) 8 pC8 rfl (by kernel_rfl) (by kernel_rfl) (by kernel_rfl) (fun _ _ _ h => h) (by rfl) ?_ (by assumption) ?_
              rotate_left
              · intro w hSw; (try dsimp only at hSw); go_simp; (try with_reducible rfl)
              (try simp only [Act.put, pC8, List.setIfInBounds_toArray, List.set_cons_zero, List.set_cons_succ])
              refine tkW (v := ?_) 9 pC9 rfl (by kernel_rfl) (by kernel_rfl) (by kernel_rfl) (fun _ _ _ h => h) (by rfl) ?_ (by assumption) ?_
              rotate_left
              · intro w hSw; (try dsimp only at hSw); go_simp; (try with_reducible rfl)
              (try simp only [Act.put, pC9, List.setIfInBounds_toArray, List.set_cons_zero, List.set_cons_succ])
              refine tkW (v := ?_) 10 pC10 rfl (by kernel_rfl) (by kernel_rfl) (by kernel_rfl) (fun _ _ _ h => h) (by rfl) ?_ (by assumption) ?_
              rotate_left
              · intro w hSw; (try dsimp only at hSw); go_simp; (try with_reducible rfl)
              (try simp only [Act.put, pC10, List.setIfInBounds_toArray, List.set_cons_zero, List.set_cons_succ])
              refine tkW (v := ?_) 11 pC11 rfl (by kernel_rfl) (by kernel_rfl) (by kernel_rfl) (fun _ _ _ h => h) (by rfl) ?_ (by assumption) ?_
              rotate_left
              · intro w hSw; (try dsimp only at hSw); go_simp; (try with_reducible rfl)
              (try simp only [Act.put, pC11, List.setIfInBounds_toArray, List.set_cons_zero, List.set_cons_succ])
              refine tkW (v := ?_) 12 pC12 rfl (by kernel_rfl) (by kernel_rfl) (by kernel_rfl) (fun _ _ _ h => h) (by rfl) ?_ (by assumption) ?_
              rotate_left
              · intro w hSw; (try dsimp only at hSw); go_simp; (try with_reducible rfl)
              (try simp only [Act.put, pC12, List.setIfInBounds_toArray, List.set_cons_zero, List.set_cons_succ])
              refine tkW (v := ?_) 13 pC13 rfl (by kernel_rfl) (by kernel_rfl) (by kernel_rfl) (fun _ _ _ h => h) (by rfl) ?_ (by assumption) ?_
              rotate_left
              · intro w hSw; (try dsimp only at hSw); go_simp; (try with_reducible rfl)
              (try simp only [Act.put, pC13, List.setIfInBounds_toArray, List.set_cons_zero, List.set_cons_succ])
              refine tkW (v := ?_) 14 pC14 rfl (by kernel_rfl) (by kernel_rfl) (by kernel_rfl) (fun _ _ _ h => h) (by rfl) ?_ (by assumption) ?_
              rotate_left
              · intro w hSw; (try dsimp only at hSw); go_simp; (try with_reducible rfl)
              (try simp only [Act.put, pC14, List.setIfInBounds_toArray, List.set_cons_zero, List.set_cons_succ])
              refine tkE 15 pC15 rfl (by kernel_rfl) (fun K hK => ?_)
              go_simp
              (refine (LS.out _).mono ?_; rintro e w' ⟨rfl, k1⟩; have k2 := Kp.trans (show Kp w4 _ from (by first | assumption | exact Kp.drew _)) k1; clear k1)
              (try go_wp2_with fail)
              refine hK.out _ _ ?_ (fun hHeld2 => ?_)
              · (try dsimp only); exact KS.out _ (by first | assumption | exact Kp.drew _)
              clear hK K hHeld1
              (try simp only [Act.put, pC15, List.setIfInBounds_toArray, List.set_cons_zero, List.set_cons_succ])
              refine tkW (v := ?_) 16 pC16 rfl (by kernel_rfl) (by kernel_rfl) (by kernel_rfl) (fun _ _ _ h => h) (by rfl) ?_ (by assumption) ?_
              rotate_left
              · intro w hSw; (try dsimp only at hSw); go_simp; (try with_reducible rfl)
              (try simp only [Act.put, pC16, List.setIfInBounds_toArray, List.set_cons_zero, List.set_cons_succ])
              refine tkW (v := ?_) 17 pC17 rfl (by kernel_rfl) (by kernel_rfl) (by kernel_rfl) (fun _ _ _ h => h) (by rfl) ?_ (by assumption) ?_
              rotate_left
              · intro w hSw; (try dsimp only at hSw); go_simp; (try with_reducible rfl)
              (try simp only [Act.put, pC17, List.setIfInBounds_toArray, List.set_cons_zero, List.set_cons_succ])
              refine tkW (v := ?_) 18 pC18 rfl (by kernel_rfl) (by kernel_rfl) (by kernel_rfl) (fun _ _ _ h => h) (by rfl) ?_ (by assumption) ?_
              rotate_left
              · intro w hSw; (try dsimp only at hSw); go_simp; (try with_reducible rfl)
              (try simp only [Act.put, pC18, List.setIfInBounds_toArray, List.set_cons_zero, List.set_cons_succ])
              refine tkW (v := ?_) 19 pC19 rfl (by kernel_rfl) (by kernel_rfl) (by kernel_rfl) (fun _ _ _ h => h) (by rfl) ?_ (by assumption) ?_
              rotate_left
              · intro w hSw; (try dsimp only at hSw); go_simp; (try with_reducible rfl)
              (try simp only [Act.put, pC19, List.setIfInBounds_toArray, List.set_cons_zero, List.set_cons_succ])
              refine tkE 20 pC20 rfl (by kernel_rfl) (fun K hK => ?_)
              go_simp
              (refine (CP.out _ (K4.out.trans (by first | assumption | exact Kp.drew _))).mono ?_; rintro e w' ⟨rfl, k1⟩; have k2 := Kp.trans (show Kp w4 _ from (by first | assumption | exact Kp.drew _)) k1; clear k1)
              (try go_wp2_with fail)
              refine hK.out _ _ ?_ (fun hHeld3 => ?_)
              · (try dsimp only); exact KS.out _ (by first | assumption | exact Kp.drew _)
              clear hK K hHeld2
              (try simp only [Act.put, pC20, List.setIfInBounds_toArray, List.set_cons_zero, List.set_cons_succ])
              refine tkW (v := ?_) 21 pC21 rfl (by kernel_rfl) (by kernel_rfl) (by kernel_rfl) (fun _ _ _ h => h) (by rfl) ?_ (by assumption) ?_
              rotate_left
              · intro w hSw; (try dsimp only at hSw); go_simp; (try with_reducible rfl)
              (try simp only [Act.put, pC21, List.setIfInBounds_toArray, List.set_cons_zero, List.set_cons_succ])
              refine tkW (v := ?_) 22 pC22 rfl (by kernel_rfl) (by kernel_rfl) (by kernel_rfl) (fun _ _ _ h => h) (by rfl) ?_ (by assumption) ?_
              rotate_left
              · intro w hSw; (try dsimp only at hSw); go_simp; (try with_reducible rfl)
              (try simp only [Act.put, pC22, List.setIfInBounds_toArray, List.set_cons_zero, List.set_cons_succ])
              refine tkW (v := ?_) 23 pC23 rfl (by kernel_rfl) (by kernel_rfl) (by kernel_rfl) (fun _ _ _ h => h) (by rfl) ?_ (by assumption) ?_
              rotate_left
              · intro w hSw; (try dsimp only at hSw); go_simp; (try with_reducible rfl)
              (try simp only [Act.put, pC23, List.setIfInBounds_toArray, List.set_cons_zero, List.set_cons_succ])
              refine tkW (v := ?_) 24 pC24 rfl (by kernel_rfl) (by kernel_rfl) (by kernel_rfl) (fun _ _ _ h => h) (by rfl) ?_ (by assumption) ?_
              rotate_left
              · intro w hSw; (try dsimp only at hSw); go_simp; (try with_reducible rfl)
              (try simp only [Act.put, pC24, List.setIfInBounds_toArray, List.set_cons_zero, List.set_cons_succ])
              refine tkW (v := ?_) 25 pC25 rfl (by kernel_rfl) (by kernel_rfl) (by kernel_rfl) (fun _ _ _ h => h) (by rfl) ?_ (by assumption) ?_
              rotate_left
              · intro w hSw; (try dsimp only at hSw); go_simp; (try with_reducible rfl)
              (try simp only [Act.put, pC25, List.setIfInBounds_toArray, List.set_cons_zero, List.set_cons_succ])
              refine tkW (v := ?_) 26 pC26 rfl (by kernel_rfl) (by kernel_rfl) (by kernel_rfl) (fun _ _ _ h => h) (by rfl) ?_ (by assumption) ?_
              rotate_left
              · intro w hSw; (try dsimp only at hSw); go_simp; (try with_reducible rfl)
              (try simp only [Act.put, pC26, List.setIfInBounds_toArray, List.set_cons_zero, List.set_cons_succ])
              refine tkE 27 pC27 rfl (by kernel_rfl) (fun K hK => ?_)
              go_simp
              (refine (P0.out _ (K4.out.trans (by first | assumption | exact Kp.drew _))).mono ?_; rintro e w' ⟨ad0, cp0, rfl, k1⟩; have k2 := Kp.trans (show Kp w4 _ from (by first | assumption | exact Kp.drew _)) k1; clear k1)
              (try go_wp2_with fail)
              refine hK.out _ _ ?_ (fun hHeld4 => ?_)
              · (try dsimp only); exact KS.out _ (by first | assumption | exact Kp.drew _)
              clear hK K hHeld3
              (try simp only [Act.put, pC27, List.setIfInBounds_toArray, List.set_cons_zero, List.set_cons_succ])
              refine tkW (v := ?_) 28 pC28 rfl (by kernel_rfl) (by kernel_rfl) (by kernel_rfl) (fun _ _ _ h => h) (by rfl) ?_ (by assumption) ?_
              rotate_left
              · intro w hSw; (try dsimp only at hSw); go_simp; (try with_reducible rfl)
              (try simp only [Act.put, pC28, List.setIfInBounds_toArray, List.set_cons_zero, List.set_cons_succ])
              refine tkW (v := ?_) 29 pC29 rfl (by kernel_rfl) (by kernel_rfl) (by kernel_rfl) (fun _ _ _ h => h) (by rfl) ?_ (by assumption) ?_
              rotate_left
              · intro w hSw; (try dsimp only at hSw); go_simp; (try with_reducible rfl)
              (try simp only [Act.put, pC29, List.setIfInBounds_toArray, List.set_cons_zero, List.set_cons_succ])
              refine tkW (v := ?_) 30 pC30 rfl (by kernel_rfl) (by kernel_rfl) (by kernel_rfl) (fun _ _ _ h => h) (by rfl) ?_ (by assumption) ?_
              rotate_left
              · intro w hSw; (try dsimp only at hSw); go_simp; (try with_reducible rfl)
              (try simp only [Act.put, pC30, List.setIfInBounds_toArray, List.set_cons_zero, List.set_cons_succ])
              refine tkW (v := ?_) 31 pC31 rfl (by kernel_rfl) (by kernel_rfl) (by kernel_rfl) (fun _ _ _ h => h) (by rfl) ?_ (by assumption) ?_
              rotate_left
              · intro w hSw; (try dsimp only at hSw); go_simp; (try with_reducible rfl)
              (try simp only [Act.put, pC31, List.setIfInBounds_toArray, List.set_cons_zero, List.set_cons_succ])
              refine wpAnyH_done (by kernel_rfl) ?_ _
              go_wp2
              go_ret
              exact ⟨rfl, K00.out.trans (K4.out.trans (by first | assumption | exact Kp.drew _))⟩
            | false =>
              have KS := Lib.hid (fun w' (kq : Kp w4 w') => show w'.cell? ⟨w.heap.size, 0, none⟩ = some (.bool spf) ∧ w'.cell? ⟨w.heap.size, 1, none⟩ = some (.int .i64 uf) ∧ w'.cell? ⟨w.heap.size, 2, none⟩ = some (.slice adf af.length caf) ∧ w'.cell? ⟨w.heap.size, 3, none⟩ = some (.slice bdf bf.length cbf) ∧ w'.cell? ⟨w.heap.size + 1, 0, none⟩ = some (.int .i64 pS) ∧ w'.cell? ⟨w.heap.size + 1, 1, none⟩ = some (.int .i64 pE) ∧ w'.cell? ⟨b0, off + 1998, none⟩ = some (.int .i64 u) ∧ w'.cell? ⟨b0, off + 1998 + 1, none⟩ = some (.int .i64 v) ∧ Kp w4 w' from ⟨(HB.out w' (K4.out.trans kq)).1, (HB.out w' (K4.out.trans kq)).2.1, (HB.out w' (K4.out.trans kq)).2.2.1, (HB.out w' (K4.out.trans kq)).2.2.2.1, (HB.out w' (K4.out.trans kq)).2.2.2.2.1, (HB.out w' (K4.out.trans kq)).2.2.2.2.2, cell_up kq d1, cell_up kq d2, kq⟩)
              go_wp2_with fail
              refine wp_region_held_drew (S := fun w' => w'.cell? ⟨w.heap.size, 0, none⟩ = some (.bool spf) ∧ w'.cell? ⟨w.heap.size, 1, none⟩ = some (.int .i64 uf) ∧ w'.cell? ⟨w.heap.size, 2, none⟩ = some (.slice adf af.length caf) ∧ w'.cell? ⟨w.heap.size, 3, none⟩ = some (.slice bdf bf.length cbf) ∧ w'.cell? ⟨w.heap.size + 1, 0, none⟩ = some (.int .i64 pS) ∧ w'.cell? ⟨w.heap.size + 1, 1, none⟩ = some (.int .i64 pE) ∧ w'.cell? ⟨b0, off + 1998, none⟩ = some (.int .i64 u) ∧ w'.cell? ⟨b0, off + 1998 + 1, none⟩ = some (.int .i64 v) ∧ Kp w4 w') (by kernel_rfl) ?_ (fun hHeld0 => ?_)
              · (try dsimp only); exact KS.out _ (by first | assumption | exact Kp.drew _)
              refine tkW (v := ?_) 0 pC0 rfl (by kernel_rfl) (by kernel_rfl) (by kernel_rfl) (fun _ _ _ h => h) (by rfl) ?_ (by assumption) ?_
              rotate_left
              · intro w hSw; (try dsimp only at hSw); go_simp; (try with_reducible rfl)
              (try simp only [Act.put, pC0, List.setIfInBounds_toArray, List.set_cons_zero, List.set_cons_succ])
              refine tkW (v := ?_) 1 pC1 rfl (by kernel_rfl) (by kernel_rfl) (by kernel_rfl) (fun _ _ _ h => h) (by rfl) ?_ (by assumption) ?_
              rotate_left
              · intro w hSw; (try dsimp only at hSw); go_simp; (try with_reducible rfl)
              (try simp only [Act.put, pC1, List.setIfInBounds_toArray, List.set_cons_zero, List.set_cons_succ])
              refine tkW (v := ?_) 2 pC2 rfl (by kernel_rfl) (by kernel_rfl) (by kernel_rfl) (fun _ _ _ h => h) (by rfl) ?_ (by assumption) ?_
              rotate_left
              · intro w hSw; (try dsimp only at hSw); go_simp; (try with_reducible rfl)
              (try simp only [Act.put, pC2, List.setIfInBounds_toArray, List.set_cons_zero, List.set_cons_succ])
              refine tkW (v := ?_) 3 pC3 rfl (by kernel_rfl) (by kernel_rfl) (by kernel_rfl) (fun _ _ _ h => h) (by rfl) ?_ (by assumption) ?_
              rotate_left
              · intro w hSw; (try dsimp only at hSw); go_simp; (try with_reducible rfl)
              (try simp only [Act.put, pC3, List.setIfInBounds_toArray, List.set_cons_zero, List.set_cons_succ])
              refine tkW (v := ?_) 5 pC5 rfl (by kernel_rfl) (by kernel_rfl) (by kernel_rfl) (fun _ _ _ h => h) (by rfl) ?_ (by assumption) ?_
              rotate_left
              · intro w hSw; (try dsimp only at hSw); go_simp; (try with_reducible rfl)
              (try simp only [Act.put, pC5, List.setIfInBounds_toArray, List.set_cons_zero, List.set_cons_succ])
              refine tkE 4 pC4 rfl (by kernel_rfl) (fun K hK => ?_)
              go_simp
              (refine (CP.out _ (K4.out.trans (by first | assumption | exact Kp.drew _))).mono ?_; rintro e w' ⟨rfl, k1⟩; have k2 := Kp.trans (show Kp w4 _ from (by first | assumption | exact Kp.drew _)) k1; clear k1)
              (try go_wp2_with fail)
              refine hK.out _ _ ?_ (fun hHeld1 => ?_)
              · (try dsimp only); exact KS.out _ (by first | assumption | exact Kp.drew _)
              clear hK K hHeld0
              (try simp only [Act.put, pC4, List.setIfInBounds_toArray, List.set_cons_zero, List.set_cons_succ])
              refine tkW (v := ?_) 6 pC6 rfl (by kernel_rfl) (by kernel_rfl) (by kernel_rfl) (fun _ _ _ h => h) (by rfl) ?_ (by assumption) ?_
              rotate_left
              · intro w hSw; (try dsimp only at hSw); go_simp; (try with_reducible rfl)
              (try simp only [Act.put, pC6, List.setIfInBounds_toArray, List.set_cons_zero, List.set_cons_succ])
              refine tkW (v := ?_) 7 pC7 rfl (by kernel_rfl) (by kernel_rfl) (by kernel_rfl) (fun _ _ _ h => h) (by rfl) ?_ (by assumption) ?_
              rotate_left
              · intro w hSw; (try dsimp only at hSw); go_simp; (try with_reducible rfl)
              (try simp only [Act.put, pC7, List.setIfInBounds_toArray, List.set_cons_zero, List.set_cons_succ])
              refine tkW (v := ?_) 8 pC8 rfl (by kernel_rfl) (by kernel_rfl) (by kernel_rfl) (fun _ _ _ h => h) (by rfl) ?_ (by assumption) ?_
              rotate_left
              · intro w hSw; (try dsimp only at hSw); go_simp; (try with_reducible rfl)
              (try simp only [Act.put, pC8, List.setIfInBounds_toArray, List.set_cons_zero, List.set_cons_succ])
              refine tkW (v := ?_) 9 pC9 rfl (by kernel_rfl) (by kernel_rfl) (by kernel_rfl) (fun _ _ _ h => h) (by rfl) ?_ (by assumption) ?_
              rotate_left
              · intro w hSw; (try dsimp only at hSw); go_simp; (try with_reducible rfl)
              (try simp only [Act.put, pC9, List.setIfInBounds_toArray, List.set_cons_zero, List.set_cons_succ])
              refine tkW (v := ?_) 10 pC10 rfl (by kernel_rfl) (by kernel_rfl) (by kernel_rfl) (fun _ _ _ h => h) (by rfl) ?_ (by assumption) ?_
              rotate_left
              · intro w hSw; (try dsimp only at hSw); go_simp; (try with_reducible rfl)
              (try simp only [Act.put, pC10, List.setIfInBounds_toArray, List.set_cons_zero, List.set_cons_succ])
              refine tkW (v := ?_) 11 pC11 rfl (by kernel_rfl) (by kernel_rfl) (by kernel_rfl) (fun _ _ _ h => h) (by rfl) ?_ (by assumption) ?_
              rotate_left
              · intro w hSw; (try dsimp only at hSw); go_simp; (try with_reducible rfl)
              (try simp only [Act.put, pC11, List.setIfInBounds_toArray, List.set_cons_zero, List.set_cons_succ])
              refine tkW (v := ?_) 12 pC12 rfl (by kernel_rfl) (by kernel_rfl) (by kernel_rfl) (fun _ _ _ h => h) (by rfl) ?_ (by assumption) ?_
              rotate_left
              · intro w hSw; (try dsimp only at hSw); go_simp; (try with_reducible rfl)
              (try simp only [Act.put, pC12, List.setIfInBounds_toArray, List.set_cons_zero, List.set_cons_succ])
              refine tkW (v := ?_) 13 pC13 rfl (by kernel_rfl) (by kernel_rfl) (by kernel_rfl) (fun _ _ _ h => h) (by rfl) ?_ (by assumption) ?_
              rotate_left
              · intro w hSw; (try dsimp only at hSw); go_simp; (try with_reducible rfl)
              (try simp only [Act.put, pC13, List.setIfInBounds_toArray, List.set_cons_zero, List.set_cons_succ])
              refine tkW (v := ?_) 14 pC14 rfl (by kernel_rfl) (by kernel_rfl) (by kernel_rfl) (fun _ _ _ h => h) (by rfl) ?_ (by assumption) ?_
              rotate_left
              · intro w hSw; (try dsimp only at hSw); go_simp; (try with_reducible rfl)
              (try simp only [Act.put, pC14, List.setIfInBounds_toArray, List.set_cons_zero, List.set_cons_succ])
              refine tkE 15 pC15 rfl (by kernel_rfl) (fun K hK => ?_)
              go_simp
              (refine (LS.out _).mono ?_; rintro e w' ⟨rfl, k1⟩; have k2 := Kp.trans (show Kp w4 _ from (by first | assumption | exact Kp.drew _)) k1; clear k1)
              (try go_wp2_with fail)
              refine hK.out _ _ ?_ (fun hHeld2 => ?_)
              · (try dsimp only); exact KS.out _ (by first | assumption | exact Kp.drew _)
              clear hK K hHeld1
              (try simp only [Act.put, pC15, List.setIfInBounds_toArray, List.set_cons_zero, List.set_cons_succ])
              refine tkW (v := ?_) 16 pC16 rfl (by kernel_rfl) (by kernel_rfl) (by kernel_rfl) (fun _ _ _ h => h) (by rfl) ?_ (by assumption) ?_
              rotate_left
              · intro w hSw; (try dsimp only at hSw); go_simp; (try with_reducible rfl)
              (try simp only [Act.put, pC16, List.setIfInBounds_toArray, List.set_cons_zero, List.set_cons_succ])
              refine tkW (v := ?_) 17 pC17 rfl (by kernel_rfl) (by kernel_rfl) (by kernel_rfl) (fun _ _ _ h => h) (by rfl) ?_ (by assumption) ?_
              rotate_left
              · intro w hSw; (try dsimp only at hSw); go_simp; (try with_reducible rfl)
              (try simp only [Act.put, pC17, List.setIfInBounds_toArray, List.set_cons_zero, List.set_cons_succ])
              refine tkW (v := ?_) 18 pC18 rfl (by kernel_rfl) (by kernel_rfl) (by kernel_rfl) (fun _ _ _ h => h) (by rfl) ?_ (by assumption) ?_
              rotate_left
              · intro w hSw; (try dsimp only at hSw); go_simp; (try with_reducible rfl)
              (try simp only [Act.put, pC18, List.setIfInBounds_toArray, List.set_cons_zero, List.set_cons_succ])
              refine tkW (v := ?_) 19 pC19 rfl (by kernel_rfl) (by kernel_rfl) (by kernel_rfl) (fun _ _ _ h => h) (by rfl) ?_ (by assumption) ?_
              rotate_left
              · intro w hSw; (try dsimp only at hSw); go_simp; (try with_reducible rfl)
              (try simp only [Act.put, pC19, List.setIfInBounds_toArray, List.set_cons_zero, List.set_cons_succ])
              refine tkE 20 pC20 rfl (by kernel_rfl) (fun K hK => ?_)
              go_simp
              (refine (CP.out _ (K4.out.trans (by first | assumption | exact Kp.drew _))).mono ?_; rintro e w' ⟨rfl, k1⟩; have k2 := Kp.trans (show Kp w4 _ from (by first | assumption | exact Kp.drew _)) k1; clear k1)
              (try go_wp2_with fail)
              refine hK.out _ _ ?_ (fun hHeld3 => ?_)
              · (try dsimp only); exact KS.out _ (by first | assumption | exact Kp.drew _)
              clear hK K hHeld2
              (try simp only [Act.put, pC20, List.setIfInBounds_toArray, List.set_cons_zero, List.set_cons_succ])
              refine tkW (v := ?_) 21 pC21 rfl (by kernel_rfl) (by kernel_rfl) (by kernel_rfl) (fun _ _ _ h => h) (by rfl) ?_ (by assumption) ?_
              rotate_left
              · intro w hSw; (try dsimp only at hSw); go_simp; (try with_reducible rfl)
              (try simp only [Act.put, pC21, List.setIfInBounds_toArray, List.set_cons_zero, List.set_cons_succ])
              refine tkW (v := ?_) 22 pC22 rfl (by kernel_rfl) (by kernel_rfl) (by kernel_rfl) (fun _ _ _ h => h) (by rfl) ?_ (by assumption) ?_
              rotate_left
              · intro w hSw; (try dsimp only at hSw); go_simp; (try with_reducible rfl)
              (try simp only [Act.put, pC22, List.setIfInBounds_toArray, List.set_cons_zero, List.set_cons_succ])
              refine tkW (v := ?_) 23 pC23 rfl (by kernel_rfl) (by kernel_rfl) (by kernel_rfl) (fun _ _ _ h => h) (by rfl) ?_ (by assumption) ?_
              rotate_left
              · intro w hSw; (try dsimp only at hSw); go_simp; (try with_reducible rfl)
              (try simp only [Act.put, pC23, List.setIfInBounds_toArray, List.set_cons_zero, List.set_cons_succ])
              refine tkW (v := ?_) 24 pC24 rfl (by kernel_rfl) (by kernel_rfl) (by kernel_rfl) (fun _ _ _ h => h) (by rfl) ?_ (by assumption) ?_
              rotate_left
              · intro w hSw; (try dsimp only at hSw); go_simp; (try with_reducible rfl)
              (try simp only [Act.put, pC24, List.setIfInBounds_toArray, List.set_cons_zero, List.set_cons_succ])
              refine tkW (v := ?_) 25 pC25 rfl (by kernel_rfl) (by kernel_rfl) (by kernel_rfl) (fun _ _ _ h => h) (by rfl) ?_ (by assumption) ?_
              rotate_left
              · intro w hSw; (try dsimp only at hSw); go_simp; (try with_reducible rfl)
              (try simp only [Act.put, pC25, List.setIfInBounds_toArray, List.set_cons_zero, List.set_cons_succ])
              refine tkW (v := ?_) 26 pC26 rfl (by kernel_rfl) (by kernel_rfl) (by kernel_rfl) (fun _ _ _ h => h) (by rfl) ?_ (by assumption) ?_
              rotate_left
              · intro w hSw; (try dsimp only at hSw); go_simp; (try with_reducible rfl)
              (try simp only [Act.put, pC26, List.setIfInBounds_toArray, List.set_cons_zero, List.set_cons_succ])
              refine tkE 27 pC27 rfl (by kernel_rfl) (fun K hK => ?_)
              go_simp
              (refine (P0.out _ (K4.out.trans (by first | assumption | exact Kp.drew _))).mono ?_; rintro e w' ⟨ad0, cp0, rfl, k1⟩; have k2 := Kp.trans (show Kp w4 _ from (by first | assumption | exact Kp.drew _)) k1; clear k1)
              (try go_wp2_with fail)
              refine hK.out _ _ ?_ (fun hHeld4 => ?_)
              · (try dsimp only); exact KS.out _ (by first | assumption | exact Kp.drew _)
              clear hK K hHeld3
              (try simp only [Act.put, pC27, List.setIfInBounds_toArray, List.set_cons_zero, List.set_cons_succ])
              refine tkW (v := ?_) 28 pC28 rfl (by kernel_rfl) (by kernel_rfl) (by kernel_rfl) (fun _ _ _ h => h) (by rfl) ?_ (by assumption) ?_
              rotate_left
              · intro w hSw; (try dsimp only at hSw); go_simp; (try with_reducible rfl)
              (try simp only [Act.put, pC28, List.setIfInBounds_toArray, List.set_cons_zero, List.set_cons_succ])
              refine tkW (v := ?_) 29 pC29 rfl (by kernel_rfl) (by kernel_rfl) (by kernel_rfl) (fun _ _ _ h => h) (by rfl) ?_ (by assumption) ?_
              rotate_left
              · intro w hSw; (try dsimp only at hSw); go_simp; (try with_reducible rfl)
              (try simp only [Act.put, pC29, List.setIfInBounds_toArray, List.set_cons_zero, List.set_cons_succ])
              refine tkW (v := ?_) 30 pC30 rfl (by kernel_rfl) (by kernel_rfl) (by kernel_rfl) (fun _ _ _ h => h) (by rfl) ?_ (by assumption) ?_
              rotate_left
              · intro w hSw; (try dsimp only at hSw); go_simp; (try with_reducible rfl)
              (try simp only [Act.put, pC30, List.setIfInBounds_toArray, List.set_cons_zero, List.set_cons_succ])
              refine tkW (v := ?_) 31 pC31 rfl (by kernel_rfl) (by kernel_rfl) (by kernel_rfl) (fun _ _ _ h => h) (by rfl) ?_ (by assumption) ?_
              rotate_left
              · intro w hSw; (try dsimp only at hSw); go_simp; (try with_reducible rfl)
              (try simp only [Act.put, pC31, List.setIfInBounds_toArray, List.set_cons_zero, List.set_cons_succ])
              refine wpAnyH_done (by kernel_rfl) ?_ _
              go_wp2
              go_ret
              exact ⟨rfl, K00.out.trans (K4.out.trans (by first | assumption | exact Kp.drew _))⟩
          | false =>
            have h3 : hb = false := by
              rcases Bool.eq_false_or_eq_true hb with h | h
              · exact absurd (H3.out h) (by simp)
              · exact h
            subst h3
            clear H3
            have KS := Lib.hid (fun w' (kq : Kp w4 w') => show w'.cell? ⟨w.heap.size, 0, none⟩ = some (.bool spf) ∧ w'.cell? ⟨w.heap.size, 1, none⟩ = some (.int .i64 uf) ∧ w'.cell? ⟨w.heap.size, 2, none⟩ = some (.slice adf af.length caf) ∧ w'.cell? ⟨w.heap.size, 3, none⟩ = some (.slice bdf bf.length cbf) ∧ w'.cell? ⟨w.heap.size + 1, 0, none⟩ = some (.int .i64 pS) ∧ w'.cell? ⟨w.heap.size + 1, 1, none⟩ = some (.int .i64 pE) ∧ w'.cell? ⟨b0, off + 1998, none⟩ = some (.int .i64 u) ∧ w'.cell? ⟨b0, off + 1998 + 1, none⟩ = some (.int .i64 v) ∧ Kp w4 w' from ⟨(HB.out w' (K4.out.trans kq)).1, (HB.out w' (K4.out.trans kq)).2.1, (HB.out w' (K4.out.trans kq)).2.2.1, (HB.out w' (K4.out.trans kq)).2.2.2.1, (HB.out w' (K4.out.trans kq)).2.2.2.2.1, (HB.out w' (K4.out.trans kq)).2.2.2.2.2, cell_up kq d1, cell_up kq d2, kq⟩)
            go_wp2_with fail
            refine wp_region_held_drew (S := fun w' => w'.cell? ⟨w.heap.size, 0, none⟩ = some (.bool spf) ∧ w'.cell? ⟨w.heap.size, 1, none⟩ = some (.int .i64 uf) ∧ w'.cell? ⟨w.heap.size, 2, none⟩ = some (.slice adf af.length caf) ∧ w'.cell? ⟨w.heap.size, 3, none⟩ = some (.slice bdf bf.length cbf) ∧ w'.cell? ⟨w.heap.size + 1, 0, none⟩ = some (.int .i64 pS) ∧ w'.cell? ⟨w.heap.size + 1, 1, none⟩ = some (.int .i64 pE) ∧ w'.cell? ⟨b0, off + 1998, none⟩ = some (.int .i64 u) ∧ w'.cell? ⟨b0, off + 1998 + 1, none⟩ = some (.int .i64 v) ∧ Kp w4 w') (by kernel_rfl) ?_ (fun hHeld0 => ?_)
            · (try dsimp only); exact KS.out _ (by first | assumption | exact Kp.drew _)
            refine tkW (v := ?_) 0 pC0 rfl (by kernel_rfl) (by kernel_rfl) (by kernel_rfl) (fun _ _ _ h => h) (by rfl) ?_ (by assumption) ?_
            rotate_left
            · intro w hSw; (try dsimp only at hSw); go_simp; (try with_reducible rfl)
            (try simp only [Act.put, pC0, List.setIfInBounds_toArray, List.set_cons_zero, List.set_cons_succ])
            refine tkW (v := ?_) 1 pC1 rfl (by kernel_rfl) (by kernel_rfl) (by kernel_rfl) (fun _ _ _ h => h) (by rfl) ?_ (by assumption) ?_
            rotate_left
            · intro w hSw; (try dsimp only at hSw); go_simp; (try with_reducible rfl)
            (try simp only [Act.put, pC1, List.setIfInBounds_toArray, List.set_cons_zero, List.set_cons_succ])
            refine tkW (v := ?_) 2 pC2 rfl (by kernel_rfl) (by kernel_rfl) (by kernel_rfl) (fun _ _ _ h => h) (by rfl) ?_ (by assumption) ?_
            rotate_left
            · intro w hSw; (try dsimp only at hSw); go_simp; (try with_reducible rfl)
            (try simp only [Act.put, pC2, List.setIfInBounds_toArray, List.set_cons_zero, List.set_cons_succ])
            refine tkW (v := ?_) 3 pC3 rfl (by kernel_rfl) (by kernel_rfl) (by kernel_rfl) (fun _ _ _ h => h) (by rfl) ?_ (by assumption) ?_
            rotate_left
            · intro w hSw; (try dsimp only at hSw); go_simp; (try with_reducible rfl)
            (try simp only [Act.put, pC3, List.setIfInBounds_toArray, List.set_cons_zero, List.set_cons_succ])
            refine tkW (v := ?_) 5 pC5 rfl (by kernel_rfl) (by kernel_rfl) (by kernel_rfl) (fun _ _ _ h => h) (by rfl) ?_ (by assumption) ?_
            rotate_left
            · intro w hSw; (try dsimp only at hSw); go_simp; (try with_reducible rfl)
            (try simp only [Act.put, pC5, List.setIfInBounds_toArray, List.set_cons_zero, List.set_cons_succ])
            refine tkE 4 pC4 rfl (by kernel_rfl) (fun K hK => ?_)
            go_simp
            (refine (CP.out _ (K4.out.trans (by first | assumption | exact Kp.drew _))).mono ?_; rintro e w' ⟨rfl, k1⟩; have k2 := Kp.trans (show Kp w4 _ from (by first | assumption | exact Kp.drew _)) k1; clear k1)
            (try go_wp2_with fail)
            refine hK.out _ _ ?_ (fun hHeld1 => ?_)
            · (try dsimp only); exact KS.out _ (by first | assumption | exact Kp.drew _)
            clear hK K hHeld0
            (try simp only [Act.put, pC4, List.setIfInBounds_toArray, List.set_cons_zero, List.set_cons_succ])
            refine tkW (v := ?_) 6 pC6 rfl (by kernel_rfl) (by kernel_rfl) (by kernel_rfl) (fun _ _ _ h => h) (by rfl) ?_ (by assumption) ?_
            rotate_left
            · intro w hSw; (try dsimp only at hSw); go_simp; (try with_reducible rfl)
            (try simp only [Act.put, pC6, List.setIfInBounds_toArray, List.set_cons_zero, List.set_cons_succ])
            refine tkW (v := ?_) 7 pC7 rfl (by kernel_rfl) (by kernel_rfl) (by kernel_rfl) (fun _ _ _ h => h) (by rfl) ?_ (by assumption) ?_
            rotate_left
            · intro w hSw; (try dsimp only at hSw); go_simp; (try with_reducible rfl)
            (try simp only [Act.put, pC7, List.setIfInBounds_toArray, List.set_cons_zero, List.set_cons_succ])
            refine tkW (v := ?_) 8 pC8 rfl (by kernel_rfl) (by kernel_rfl) (by kernel_rfl) (fun _ _ _ h => h) (by rfl) ?_ (by assumption) ?_
            rotate_left
            · intro w hSw; (try dsimp only at hSw); go_simp; (try with_reducible rfl)
            (try simp only [Act.put, pC8, List.setIfInBounds_toArray, List.set_cons_zero, List.set_cons_succ])
            refine tkW (v := ?_) 9 pC9 rfl (by kernel_rfl) (by kernel_rfl) (by kernel_rfl) (fun _ _ _ h => h) (by rfl) ?_ (by assumption) ?_
            rotate_left
            · intro w hSw; (try dsimp only at hSw); go_simp; (try with_reducible rfl)
            (try simp only [Act.put, pC9, List.setIfInBounds_toArray, List.set_cons_zero, List.set_cons_succ])
            refine tkW (v := ?_) 10 pC10 rfl (by kernel_rfl) (by kernel_rfl) (by kernel_rfl) (fun _ _ _ h => h) (by rfl) ?_ (by assumption) ?_
            rotate_left
            · intro w hSw; (try dsimp only at hSw); go_simp; (try with_reducible rfl)
            (try simp only [Act.put, pC10, List.setIfInBounds_toArray, List.set_cons_zero, List.set_cons_succ])
            refine tkW (v := ?_) 11 pC11 rfl (by kernel_rfl) (by kernel_rfl) (by kernel_rfl) (fun _ _ _ h => h) (by rfl) ?_ (by assumption) ?_
            rotate_left
            · intro w hSw; (try dsimp only at hSw); go_simp; (try with_reducible rfl)
            (try simp only [Act.put, pC11, List.setIfInBounds_toArray, List.set_cons_zero, List.set_cons_succ])
            refine tkW (v := ?_) 12 pC12 rfl (by kernel_rfl) (by kernel_rfl) (by kernel_rfl) (fun _ _ _ h => h) (by rfl) ?_ (by assumption) ?_
            rotate_left
            · intro w hSw; (try dsimp only at hSw); go_simp; (try with_reducible rfl)
            (try simp only [Act.put, pC12, List.setIfInBounds_toArray, List.set_cons_zero, List.set_cons_succ])
            refine tkW (v := ?_) 13 pC13 rfl (by kernel_rfl) (by kernel_rfl) (by kernel_rfl) (fun _ _ _ h => h) (by rfl) ?_ (by assumption) ?_
            rotate_left
            · intro w hSw; (try dsimp only at hSw); go_simp; (try with_reducible rfl)
            (try simp only [Act.put, pC13, List.setIfInBounds_toArray, List.set_cons_zero, List.set_cons_succ])
            refine tkW (v := ?_) 14 pC14 rfl (by kernel_rfl) (by kernel_rfl) (by kernel_rfl) (fun _ _ _ h => h) (by rfl) ?_ (by assumption) ?_
            rotate_left
            · intro w hSw; (try dsimp only at hSw); go_simp; (try with_reducible rfl)
            (try simp only [Act.put, pC14, List.setIfInBounds_toArray, List.set_cons_zero, List.set_cons_succ])
            refine tkE 15 pC15 rfl (by kernel_rfl) (fun K hK => ?_)
            go_simp
            (refine (LS.out _).mono ?_; rintro e w' ⟨rfl, k1⟩; have k2 := Kp.trans (show Kp w4 _ from (by first | assumption | exact Kp.drew _)) k1; clear k1)
            (try go_wp2_with fail)
            refine hK.out _ _ ?_ (fun hHeld2 => ?_)
            · (try dsimp only); exact KS.out _ (by first | assumption | exact Kp.drew _)
            clear hK K hHeld1
            (try simp only [Act.put, pC15, List.setIfInBounds_toArray, List.set_cons_zero, List.set_cons_succ])
            refine tkW (v := ?_) 16 pC16 rfl (by kernel_rfl) (by kernel_rfl) (by kernel_rfl) (fun _ _ _ h => h) (by rfl) ?_ (by assumption) ?_
            rotate_left
            · intro w hSw; (try dsimp only at hSw); go_simp; (try with_reducible rfl)
            (try simp only [Act.put, pC16, List.setIfInBounds_toArray, List.set_cons_zero, List.set_cons_succ])
            refine tkW (v := ?_) 17 pC17 rfl (by kernel_rfl) (by kernel_rfl) (by kernel_rfl) (fun _ _ _ h => h) (by rfl) ?_ (by assumption) ?_
            rotate_left
            · intro w hSw; (try dsimp only at hSw); go_simp; (try with_reducible rfl)
            (try simp only [Act.put, pC17, List.setIfInBounds_toArray, List.set_cons_zero, List.set_cons_succ])
            refine tkU 18 pC18 rfl (by kernel_rfl) (by kernel_rfl) (by kernel_rfl) (fun _ _ _ h => h) (by rfl) (by assumption) ?_
            (try simp only [Act.put, pC18, List.setIfInBounds_toArray, List.set_cons_zero, List.set_cons_succ])
            refine tkU 19 pC19 rfl (by kernel_rfl) (by kernel_rfl) (by kernel_rfl) (fun _ _ _ h => h) (by rfl) (by assumption) ?_
            (try simp only [Act.put, pC19, List.setIfInBounds_toArray, List.set_cons_zero, List.set_cons_succ])
            refine tkU 20 pC20 rfl (by kernel_rfl) (by kernel_rfl) (by kernel_rfl) (fun _ _ _ h => h) (by rfl) (by assumption) ?_
            (try simp only [Act.put, pC20, List.setIfInBounds_toArray, List.set_cons_zero, List.set_cons_succ])
            refine tkW (v := ?_) 21 pC21 rfl (by kernel_rfl) (by kernel_rfl) (by kernel_rfl) (fun _ _ _ h => h) (by rfl) ?_ (by assumption) ?_
            rotate_left
            · intro w hSw; (try dsimp only at hSw); go_simp; (try with_reducible rfl)
            (try simp only [Act.put, pC21, List.setIfInBounds_toArray, List.set_cons_zero, List.set_cons_succ])
            refine tkW (v := ?_) 22 pC22 rfl (by kernel_rfl) (by kernel_rfl) (by kernel_rfl) (fun _ _ _ h => h) (by rfl) ?_ (by assumption) ?_
            rotate_left
            · intro w hSw; (try dsimp only at hSw); go_simp; (try with_reducible rfl)
            (try simp only [Act.put, pC22, List.setIfInBounds_toArray, List.set_cons_zero, List.set_cons_succ])
            refine tkW (v := ?_) 23 pC23 rfl (by kernel_rfl) (by kernel_rfl) (by kernel_rfl) (fun _ _ _ h => h) (by rfl) ?_ (by assumption) ?_
            rotate_left
            · intro w hSw; (try dsimp only at hSw); go_simp; (try with_reducible rfl)
            (try simp only [Act.put, pC23, List.setIfInBounds_toArray, List.set_cons_zero, List.set_cons_succ])
            refine tkW (v := ?_) 24 pC24 rfl (by kernel_rfl) (by kernel_rfl) (by kernel_rfl) (fun _ _ _ h => h) (by rfl) ?_ (by assumption) ?_
            rotate_left
            · intro w hSw; (try dsimp only at hSw); go_simp; (try with_reducible rfl)
            (try simp only [Act.put, pC24, List.setIfInBounds_toArray, List.set_cons_zero, List.set_cons_succ])
            refine tkW (v := ?_) 25 pC25 rfl (by kernel_rfl) (by kernel_rfl) (by kernel_rfl) (fun _ _ _ h => h) (by rfl) ?_ (by assumption) ?_
            rotate_left
            · intro w hSw; (try dsimp only at hSw); go_simp; (try with_reducible rfl)
            (try simp only [Act.put, pC25, List.setIfInBounds_toArray, List.set_cons_zero, List.set_cons_succ])
            refine tkW (v := ?_) 26 pC26 rfl (by kernel_rfl) (by kernel_rfl) (by kernel_rfl) (fun _ _ _ h => h) (by rfl) ?_ (by assumption) ?_
            rotate_left
            · intro w hSw; (try dsimp only at hSw); go_simp; (try with_reducible rfl)
            (try simp only [Act.put, pC26, List.setIfInBounds_toArray, List.set_cons_zero, List.set_cons_succ])
            refine tkE 27 pC27 rfl (by kernel_rfl) (fun K hK => ?_)
            go_simp
            (refine (P0.out _ (K4.out.trans (by first | assumption | exact Kp.drew _))).mono ?_; rintro e w' ⟨ad0, cp0, rfl, k1⟩; have k2 := Kp.trans (show Kp w4 _ from (by first | assumption | exact Kp.drew _)) k1; clear k1)
            (try go_wp2_with fail)
            refine hK.out _ _ ?_ (fun hHeld3 => ?_)
            · (try dsimp only); exact KS.out _ (by first | assumption | exact Kp.drew _)
            clear hK K hHeld2
            (try simp only [Act.put, pC27, List.setIfInBounds_toArray, List.set_cons_zero, List.set_cons_succ])
            refine tkW (v := ?_) 28 pC28 rfl (by kernel_rfl) (by kernel_rfl) (by kernel_rfl) (fun _ _ _ h => h) (by rfl) ?_ (by assumption) ?_
            rotate_left
            · intro w hSw; (try dsimp only at hSw); go_simp; (try with_reducible rfl)
            (try simp only [Act.put, pC28, List.setIfInBounds_toArray, List.set_cons_zero, List.set_cons_succ])
            refine tkW (v := ?_) 29 pC29 rfl (by kernel_rfl) (by kernel_rfl) (by kernel_rfl) (fun _ _ _ h => h) (by rfl) ?_ (by assumption) ?_
            rotate_left
            · intro w hSw; (try dsimp only at hSw); go_simp; (try with_reducible rfl)
            (try simp only [Act.put, pC29, List.setIfInBounds_toArray, List.set_cons_zero, List.set_cons_succ])
            refine tkW (v := ?_) 30 pC30 rfl (by kernel_rfl) (by kernel_rfl) (by kernel_rfl) (fun _ _ _ h => h) (by rfl) ?_ (by assumption) ?_
            rotate_left
            · intro w hSw; (try dsimp only at hSw); go_simp; (try with_reducible rfl)
            (try simp only [Act.put, pC30, List.setIfInBounds_toArray, List.set_cons_zero, List.set_cons_succ])
            refine tkW (v := ?_) 31 pC31 rfl (by kernel_rfl) (by kernel_rfl) (by kernel_rfl) (fun _ _ _ h => h) (by rfl) ?_ (by assumption) ?_
            rotate_left
            · intro w hSw; (try dsimp only at hSw); go_simp; (try with_reducible rfl)
            (try simp only [Act.put, pC31, List.setIfInBounds_toArray, List.set_cons_zero, List.set_cons_succ])
            refine wpAnyH_done (by kernel_rfl) ?_ _
            go_wp2
            go_ret
            exact ⟨rfl, K00.out.trans (K4.out.trans (by first | assumption | exact Kp.drew _))⟩
        · have q1 : ((P.length : Int) == 1000) = false := beq_eq_false_iff_ne.2 (by omega)
          have h3 : hb = false := by
            rcases Bool.eq_false_or_eq_true hb with h | h
            · exact absurd (H2.out rfl h).1 hm
            · exact h
          subst h3
          clear H1 H2 hm
          have KS := Lib.hid (fun w' (kq : Kp w4 w') => show w'.cell? ⟨w.heap.size, 0, none⟩ = some (.bool spf) ∧ w'.cell? ⟨w.heap.size, 1, none⟩ = some (.int .i64 uf) ∧ w'.cell? ⟨w.heap.size, 2, none⟩ = some (.slice adf af.length caf) ∧ w'.cell? ⟨w.heap.size, 3, none⟩ = some (.slice bdf bf.length cbf) ∧ w'.cell? ⟨w.heap.size + 1, 0, none⟩ = some (.int .i64 pS) ∧ w'.cell? ⟨w.heap.size + 1, 1, none⟩ = some (.int .i64 pE) ∧ Kp w4 w' from ⟨(HB.out w' (K4.out.trans kq)).1, (HB.out w' (K4.out.trans kq)).2.1, (HB.out w' (K4.out.trans kq)).2.2.1, (HB.out w' (K4.out.trans kq)).2.2.2.1, (HB.out w' (K4.out.trans kq)).2.2.2.2.1, (HB.out w' (K4.out.trans kq)).2.2.2.2.2, kq⟩)
          go_wp2_with fail
          refine wp_region_held_drew (S := fun w' => w'.cell? ⟨w.heap.size, 0, none⟩ = some (.bool spf) ∧ w'.cell? ⟨w.heap.size, 1, none⟩ = some (.int .i64 uf) ∧ w'.cell? ⟨w.heap.size, 2, none⟩ = some (.slice adf af.length caf) ∧ w'.cell? ⟨w.heap.size, 3, none⟩ = some (.slice bdf bf.length cbf) ∧ w'.cell? ⟨w.heap.size + 1, 0, none⟩ = some (.int .i64 pS) ∧ w'.cell? ⟨w.heap.size + 1, 1, none⟩ = some (.int .i64 pE) ∧ Kp w4 w') (by kernel_rfl) ?_ (fun hHeld0 => ?_)
          · (try dsimp only); exact KS.out _ (by first | assumption | exact Kp.drew _)
          refine tkW (v := ?_) 0 pC0 rfl (by kernel_rfl) (by kernel_rfl) (by kernel_rfl) (fun _ _ _ h => h) (by rfl) ?_ (by assumption) ?_
          rotate_left
          · intro w hSw; (try dsimp only at hSw); go_simp; (try with_reducible rfl)
          (try simp only [Act.put, pC0, List.setIfInBounds_toArray, List.set_cons_zero, List.set_cons_succ])
          refine tkW (v := ?_) 1 pC1 rfl (by kernel_rfl) (by kernel_rfl) (by kernel_rfl) (fun _ _ _ h => h) (by rfl) ?_ (by assumption) ?_
          rotate_left
          · intro w hSw; (try dsimp only at hSw); go_simp; (try with_reducible rfl)
          (try simp only [Act.put, pC1, List.setIfInBounds_toArray, List.set_cons_zero, List.set_cons_succ])
          refine tkW (v := ?_) 2 pC2 rfl (by kernel_rfl) (by kernel_rfl) (by kernel_rfl) (fun _ _ _ h => h) (by rfl) ?_ (by assumption) ?_
          rotate_left
          · intro w hSw; (try dsimp only at hSw); go_simp; (try with_reducible rfl)
          (try simp only [Act.put, pC2, List.setIfInBounds_toArray, List.set_cons_zero, List.set_cons_succ])
          refine tkW (v := ?_) 3 pC3 rfl (by kernel_rfl) (by kernel_rfl) (by kernel_rfl) (fun _ _ _ h => h) (by rfl) ?_ (by assumption) ?_
          rotate_left
          · intro w hSw; (try dsimp only at hSw); go_simp; (try with_reducible rfl)
          (try simp only [Act.put, pC3, List.setIfInBounds_toArray, List.set_cons_zero, List.set_cons_succ])
          refine tkW (v := ?_) 5 pC5 rfl (by kernel_rfl) (by kernel_rfl) (by kernel_rfl) (fun _ _ _ h => h) (by rfl) ?_ (by assumption) ?_
          rotate_left
          · intro w hSw; (try dsimp only at hSw); go_simp; (try with_reducible rfl)
          (try simp only [Act.put, pC5, List.setIfInBounds_toArray, List.set_cons_zero, List.set_cons_succ])
          refine tkE 4 pC4 rfl (by kernel_rfl) (fun K hK => ?_)
          go_simp
          (refine (CP.out _ (K4.out.trans (by first | assumption | exact Kp.drew _))).mono ?_; rintro e w' ⟨rfl, k1⟩; have k2 := Kp.trans (show Kp w4 _ from (by first | assumption | exact Kp.drew _)) k1; clear k1)
          (try go_wp2_with fail)
          refine hK.out _ _ ?_ (fun hHeld1 => ?_)
          · (try dsimp only); exact KS.out _ (by first | assumption | exact Kp.drew _)
          clear hK K hHeld0
          (try simp only [Act.put, pC4, List.setIfInBounds_toArray, List.set_cons_zero, List.set_cons_succ])
          refine tkW (v := ?_) 6 pC6 rfl (by kernel_rfl) (by kernel_rfl) (by kernel_rfl) (fun _ _ _ h => h) (by rfl) ?_ (by assumption) ?_
          rotate_left
          · intro w hSw; (try dsimp only at hSw); go_simp; (try with_reducible rfl)
          (try simp only [Act.put, pC6, List.setIfInBounds_toArray, List.set_cons_zero, List.set_cons_succ])
          refine tkW (v := ?_) 7 pC7 rfl (by kernel_rfl) (by kernel_rfl) (by kernel_rfl) (fun _ _ _ h => h) (by rfl) ?_ (by assumption) ?_
          rotate_left
          · intro w hSw; (try dsimp only at hSw); go_simp; (try with_reducible rfl)
          (try simp only [Act.put, pC7, List.setIfInBounds_toArray, List.set_cons_zero, List.set_cons_succ])
          refine tkW (v := ?_) 8 pC8 rfl (by kernel_rfl) (by kernel_rfl) (by kernel_rfl) (fun _ _ _ h => h) (by rfl) ?_ (by assumption) ?_
          rotate_left
          · intro w hSw; (try dsimp only at hSw); go_simp; (try with_reducible rfl)
          (try simp only [Act.put, pC8, List.setIfInBounds_toArray, List.set_cons_zero, List.set_cons_succ])
          refine tkW (v := ?_) 9 pC9 rfl (by kernel_rfl) (by kernel_rfl) (by kernel_rfl) (fun _ _ _ h => h) (by rfl) ?_ (by assumption) ?_
          rotate_left
          · intro w hSw; (try dsimp only at hSw); go_simp; (try with_reducible rfl)
          (try simp only [Act.put, pC9, List.setIfInBounds_toArray, List.set_cons_zero, List.set_cons_succ])
          refine tkW (v := ?_) 10 pC10 rfl (by kernel_rfl) (by kernel_rfl) (by kernel_rfl) (fun _ _ _ h => h) (by rfl) ?_ (by assumption) ?_
          rotate_left
          · intro w hSw; (try dsimp only at hSw); go_simp; (try with_reducible rfl)
          (try simp only [Act.put, pC10, List.setIfInBounds_toArray, List.set_cons_zero, List.set_cons_succ])
          refine tkU 11 pC11 rfl (by kernel_rfl) (by kernel_rfl) (by kernel_rfl) (fun _ _ _ h => h) (by rfl) (by assumption) ?_
          (try simp only [Act.put, pC11, List.setIfInBounds_toArray, List.set_cons_zero, List.set_cons_succ])
          refine tkU 12 pC12 rfl (by kernel_rfl) (by kernel_rfl) (by kernel_rfl) (fun _ _ _ h => h) (by rfl) (by assumption) ?_
          (try simp only [Act.put, pC12, List.setIfInBounds_toArray, List.set_cons_zero, List.set_cons_succ])
          refine tkU 13 pC13 rfl (by kernel_rfl) (by kernel_rfl) (by kernel_rfl) (fun _ _ _ h => h) (by rfl) (by assumption) ?_
          (try simp only [Act.put, pC13, List.setIfInBounds_toArray, List.set_cons_zero, List.set_cons_succ])
          refine tkU 14 pC14 rfl (by kernel_rfl) (by kernel_rfl) (by kernel_rfl) (fun _ _ _ h => h) (by rfl) (by assumption) ?_
          (try simp only [Act.put, pC14, List.setIfInBounds_toArray, List.set_cons_zero, List.set_cons_succ])
          refine tkU 15 pC15 rfl (by kernel_rfl) (by kernel_rfl) (by kernel_rfl) (fun _ _ _ h => h) (by rfl) (by assumption) ?_
          (try simp only [Act.put, pC15, List.setIfInBounds_toArray, List.set_cons_zero, List.set_cons_succ])
          refine tkW (v := ?_) 16 pC16 rfl (by kernel_rfl) (by kernel_rfl) (by kernel_rfl) (fun _ _ _ h => h) (by rfl) ?_ (by assumption) ?_
          rotate_left
          · intro w hSw; (try dsimp only at hSw); go_simp; (try with_reducible rfl)
          (try simp only [Act.put, pC16, List.setIfInBounds_toArray, List.set_cons_zero, List.set_cons_succ])
          refine tkW (v := ?_) 17 pC17 rfl (by kernel_rfl) (by kernel_rfl) (by kernel_rfl) (fun _ _ _ h => h) (by rfl) ?_ (by assumption) ?_
          rotate_left
          · intro w hSw; (try dsimp only at hSw); go_simp; (try with_reducible rfl)
          (try simp only [Act.put, pC17, List.setIfInBounds_toArray, List.set_cons_zero, List.set_cons_succ])
          refine tkU 18 pC18 rfl (by kernel_rfl) (by kernel_rfl) (by kernel_rfl) (fun _ _ _ h => h) (by rfl) (by assumption) ?_
          (try simp only [Act.put, pC18, List.setIfInBounds_toArray, List.set_cons_zero, List.set_cons_succ])
          refine tkU 19 pC19 rfl (by kernel_rfl) (by kernel_rfl) (by kernel_rfl) (fun _ _ _ h => h) (by rfl) (by assumption) ?_
          (try simp only [Act.put, pC19, List.setIfInBounds_toArray, List.set_cons_zero, List.set_cons_succ])
          refine tkU 20 pC20 rfl (by kernel_rfl) (by kernel_rfl) (by kernel_rfl) (fun _ _ _ h => h) (by rfl) (by assumption) ?_
          (try simp only [Act.put, pC20, List.setIfInBounds_toArray, List.set_cons_zero, List.set_cons_succ])
          refine tkW (v := ?_) 21 pC21 rfl (by kernel_rfl) (by kernel_rfl) (by kernel_rfl) (fun _ _ _ h => h) (by rfl) ?_ (by assumption) ?_
          rotate_left
          · intro w hSw; (try dsimp only at hSw); go_simp; (try with_reducible rfl)
          (try simp only [Act.put, pC21, List.setIfInBounds_toArray, List.set_cons_zero, List.set_cons_succ])
          refine tkW (v := ?_) 22 pC22 rfl (by kernel_rfl) (by kernel_rfl) (by kernel_rfl) (fun _ _ _ h => h) (by rfl) ?_ (by assumption) ?_
          rotate_left
          · intro w hSw; (try dsimp only at hSw); go_simp; (try with_reducible rfl)
          (try simp only [Act.put, pC22, List.setIfInBounds_toArray, List.set_cons_zero, List.set_cons_succ])
          refine tkW (v := ?_) 23 pC23 rfl (by kernel_rfl) (by kernel_rfl) (by kernel_rfl) (fun _ _ _ h => h) (by rfl) ?_ (by assumption) ?_
          rotate_left
          · intro w hSw; (try dsimp only at hSw); go_simp; (try with_reducible rfl)
          (try simp only [Act.put, pC23, List.setIfInBounds_toArray, List.set_cons_zero, List.set_cons_succ])
          refine tkW (v := ?_) 24 pC24 rfl (by kernel_rfl) (by kernel_rfl) (by kernel_rfl) (fun _ _ _ h => h) (by rfl) ?_ (by assumption) ?_
          rotate_left
          · intro w hSw; (try dsimp only at hSw); go_simp; (try with_reducible rfl)
          (try simp only [Act.put, pC24, List.setIfInBounds_toArray, List.set_cons_zero, List.set_cons_succ])
          refine tkW (v := ?_) 25 pC25 rfl (by kernel_rfl) (by kernel_rfl) (by kernel_rfl) (fun _ _ _ h => h) (by rfl) ?_ (by assumption) ?_
          rotate_left
          · intro w hSw; (try dsimp only at hSw); go_simp; (try with_reducible rfl)
          (try simp only [Act.put, pC25, List.setIfInBounds_toArray, List.set_cons_zero, List.set_cons_succ])
          refine tkW (v := ?_) 26 pC26 rfl (by kernel_rfl) (by kernel_rfl) (by kernel_rfl) (fun _ _ _ h => h) (by rfl) ?_ (by assumption) ?_
          rotate_left
          · intro w hSw; (try dsimp only at hSw); go_simp; (try with_reducible rfl)
          (try simp only [Act.put, pC26, List.setIfInBounds_toArray, List.set_cons_zero, List.set_cons_succ])
          refine tkE 27 pC27 rfl (by kernel_rfl) (fun K hK => ?_)
          go_simp
          (refine (P0.out _ (K4.out.trans (by first | assumption | exact Kp.drew _))).mono ?_; rintro e w' ⟨ad0, cp0, rfl, k1⟩; have k2 := Kp.trans (show Kp w4 _ from (by first | assumption | exact Kp.drew _)) k1; clear k1)
          (try go_wp2_with fail)
          refine hK.out _ _ ?_ (fun hHeld2 => ?_)
          · (try dsimp only); exact KS.out _ (by first | assumption | exact Kp.drew _)
          clear hK K hHeld1
          (try simp only [Act.put, pC27, List.setIfInBounds_toArray, List.set_cons_zero, List.set_cons_succ])
          refine tkW (v := ?_) 28 pC28 rfl (by kernel_rfl) (by kernel_rfl) (by kernel_rfl) (fun _ _ _ h => h) (by rfl) ?_ (by assumption) ?_
          rotate_left
          · intro w hSw; (try dsimp only at hSw); go_simp; (try with_reducible rfl)
          (try simp only [Act.put, pC28, List.setIfInBounds_toArray, List.set_cons_zero, List.set_cons_succ])
          refine tkW (v := ?_) 29 pC29 rfl (by kernel_rfl) (by kernel_rfl) (by kernel_rfl) (fun _ _ _ h => h) (by rfl) ?_ (by assumption) ?_
          rotate_left
          · intro w hSw; (try dsimp only at hSw); go_simp; (try with_reducible rfl)
          (try simp only [Act.put, pC29, List.setIfInBounds_toArray, List.set_cons_zero, List.set_cons_succ])
          refine tkW (v := ?_) 30 pC30 rfl (by kernel_rfl) (by kernel_rfl) (by kernel_rfl) (fun _ _ _ h => h) (by rfl) ?_ (by assumption) ?_
          rotate_left
          · intro w hSw; (try dsimp only at hSw); go_simp; (try with_reducible rfl)
          (try simp only [Act.put, pC30, List.setIfInBounds_toArray, List.set_cons_zero, List.set_cons_succ])
          refine tkW (v := ?_) 31 pC31 rfl (by kernel_rfl) (by kernel_rfl) (by kernel_rfl) (fun _ _ _ h => h) (by rfl) ?_ (by assumption) ?_
          rotate_left
          · intro w hSw; (try dsimp only at hSw); go_simp; (try with_reducible rfl)
          (try simp only [Act.put, pC31, List.setIfInBounds_toArray, List.set_cons_zero, List.set_cons_succ])
          refine wpAnyH_done (by kernel_rfl) ?_ _
          go_wp2
          go_ret
          exact ⟨rfl, K00.out.trans (K4.out.trans (by first | assumption | exact Kp.drew _))⟩
theorem leafPairs_walk (f : LF) (vaf vbf : Value) (pS pE : Int) (w : World) (raf : RunsAt w vaf f.a) (rbf : RunsAt w vbf f.b) (iaf : I64R f.a) (ibf : I64R f.b) (hp1 : -9223372036854775808 ≤ pS) (hp2 : pS ≤ 9223372036854775807) (hp3 : -9223372036854775808 ≤ pE) (hp4 : pE ≤ 9223372036854775807) (T : Tabs w) :
    Calls Tryd.prog 3 #[leafV f vaf vbf, .agg #[.int .i64 pS, .int .i64 pE]] w fun e w' => e = .returned (.bool true) ∧ Kp w w' := by
  rcases Bool.eq_false_or_eq_true (fewB f) with hf | hf
  · exact pairs_main f vaf vbf pS pE w raf rbf iaf ibf hp1 hp2 hp3 hp4 T hf
  · exact pairs_few f vaf vbf pS pE w raf rbf iaf ibf hp1 hp2 hp3 hp4 T hf
end Go.Proofs.YtbahhgpaafgpoaaDoor
