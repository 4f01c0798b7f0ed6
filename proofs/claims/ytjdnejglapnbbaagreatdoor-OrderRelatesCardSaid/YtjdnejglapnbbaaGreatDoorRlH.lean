import Derived.Test.YtjdnejglapnbbaaGreatDoorGJc
import Derived.Test.YtjdnejglapnbbaaGreatDoorGLeafA
import Derived.Deep.CutRange
set_option maxHeartbeats 16000000
set_option maxRecDepth 100000
namespace Go.Proofs.YtjdnejglapnbbaaGreatDoor
open Go.RowKit Go.Shelf
set_option linter.unusedVariables false
set_option linter.unusedSimpArgs false
theorem ss_one {w : World} {t : TypeId} {u : Value} {l : List R} (h : RunsAt w u l) : SsAt (w.alloc (.cells #[u] t)) (.slice (some ⟨w.heap.size, 0, none⟩) 1 1) [l] := by
 refine ⟨w.heap.size, 1, rfl, fun i hi => ?_⟩
 obtain rfl : i = 0 := by simp at hi; omega
 exact ⟨u, by simp, h.kp (Kp.alloc _ _)⟩
theorem ss_four {w : World} {t : TypeId} {u1 u2 u3 u4 : Value} {l1 l2 l3 l4 : List R} (h1 : RunsAt w u1 l1) (h2 : RunsAt w u2 l2) (h3 : RunsAt w u3 l3) (h4 : RunsAt w u4 l4) :
  SsAt (w.alloc (.cells #[u1, u2, u3, u4] t)) (.slice (some ⟨w.heap.size, 0, none⟩) 4 4) [l1, l2, l3, l4] := by
 refine ⟨w.heap.size, 4, rfl, fun i hi => ?_⟩
 obtain rfl | rfl | rfl | rfl : i = 0 ∨ i = 1 ∨ i = 2 ∨ i = 3 := by simp at hi; omega
 ·exact ⟨u1, by simp, h1.kp (Kp.alloc _ _)⟩
 ·exact ⟨u2, by simp, h2.kp (Kp.alloc _ _)⟩
 ·exact ⟨u3, by simp, h3.kp (Kp.alloc _ _)⟩
 ·exact ⟨u4, by simp, h4.kp (Kp.alloc _ _)⟩
theorem zs_two {w : World} {t : TypeId} {u1 u2 : Value} {a b : List Int} (h1 : IntsAt w u1 a) (h2 : IntsAt w u2 b) : ZsAt (w.alloc (.cells #[u1, u2] t)) (.slice (some ⟨w.heap.size, 0, none⟩) 2 2) a b :=
 ⟨w.heap.size, u1, u2, rfl, by simp, by simp, h1.kp (Kp.alloc _ _), h2.kp (Kp.alloc _ _)⟩
theorem l1_le {a : List R} {N : Nat} (h1 : a.length ≤ N) : ∀ i, i < [a].length → ([a].getD i []).length ≤ N := by
 intro i hi
 obtain rfl : i = 0 := by simp at hi; omega
 exact h1
theorem l4_le {a b c e : List R} {N : Nat} (h1 : a.length ≤ N) (h2 : b.length ≤ N) (h3 : c.length ≤ N) (h4 : e.length ≤ N) : ∀ i, i < [a, b, c, e].length → ([a, b, c, e].getD i []).length ≤ N := by
 intro i hi
 obtain rfl | rfl | rfl | rfl : i = 0 ∨ i = 1 ∨ i = 2 ∨ i = 3 := by simp at hi; omega
 ·exact h1
 ·exact h2
 ·exact h3
 ·exact h4
abbrev exA0 : Oper := { dst := some 10, op := Go.Op.fieldAddr 111 (Go.Operand.tmp 2) 1, type := 0, pos := "family.go:108", after := #[], guard := none }
abbrev exA1 : Oper := { dst := some 11, op := Go.Op.load 38 (Go.Operand.tmp 10), type := 38, pos := "family.go:108", after := #[{ on := 0, ground := Go.Ground.data }], guard := none }
abbrev exA2 : Oper := { dst := some 12, op := Go.Op.fieldAddr 111 (Go.Operand.tmp 3) 1, type := 0, pos := "family.go:108", after := #[], guard := none }
abbrev exA3 : Oper := { dst := some 13, op := Go.Op.load 38 (Go.Operand.tmp 12), type := 38, pos := "family.go:108", after := #[{ on := 2, ground := Go.Ground.data }], guard := none }
abbrev exA4 : Oper := { dst := some 14, op := Go.Op.call { callee := Go.Callee.value (Go.Operand.func 123), args := #[Go.Operand.tmp 11, Go.Operand.tmp 13], argTypes := #[38, 38] }, type := 38, pos := "family.go:108", after := #[{ on := 1, ground := Go.Ground.data }, { on := 3, ground := Go.Ground.data }], guard := none }
abbrev exA5 : Oper := { dst := some 15, op := Go.Op.fieldAddr 111 (Go.Operand.tmp 2) 2, type := 0, pos := "family.go:108", after := #[], guard := none }
abbrev exA6 : Oper := { dst := some 16, op := Go.Op.load 38 (Go.Operand.tmp 15), type := 38, pos := "family.go:108", after := #[{ on := 5, ground := Go.Ground.data }], guard := none }
abbrev exA7 : Oper := { dst := some 17, op := Go.Op.fieldAddr 111 (Go.Operand.tmp 3) 2, type := 0, pos := "family.go:108", after := #[], guard := none }
abbrev exA8 : Oper := { dst := some 18, op := Go.Op.load 38 (Go.Operand.tmp 17), type := 38, pos := "family.go:108", after := #[{ on := 7, ground := Go.Ground.data }], guard := none }
abbrev exA9 : Oper := { dst := some 19, op := Go.Op.call { callee := Go.Callee.value (Go.Operand.func 123), args := #[Go.Operand.tmp 16, Go.Operand.tmp 18], argTypes := #[38, 38] }, type := 38, pos := "family.go:108", after := #[{ on := 6, ground := Go.Ground.data }, { on := 8, ground := Go.Ground.data }, { on := 4, ground := Go.Ground.chain }], guard := none }
abbrev exA10 : Oper := { dst := some 5, op := Go.Op.assign (Go.Operand.tmp 14), type := 38, pos := "family.go:108", after := #[{ on := 4, ground := Go.Ground.data }, { on := 9, ground := Go.Ground.chain }, { on := 0, ground := Go.Ground.phase }, { on := 1, ground := Go.Ground.phase }, { on := 2, ground := Go.Ground.phase }, { on := 3, ground := Go.Ground.phase }, { on := 4, ground := Go.Ground.phase }, { on := 5, ground := Go.Ground.textOnly Go.Departure.lateStores }, { on := 6, ground := Go.Ground.textOnly Go.Departure.lateStores }, { on := 7, ground := Go.Ground.textOnly Go.Departure.lateStores }, { on := 8, ground := Go.Ground.textOnly Go.Departure.lateStores }, { on := 9, ground := Go.Ground.textOnly Go.Departure.lateStoresUnsure }], guard := none }
abbrev exA11 : Oper := { dst := some 6, op := Go.Op.assign (Go.Operand.tmp 19), type := 38, pos := "family.go:108", after := #[{ on := 9, ground := Go.Ground.data }, { on := 10, ground := Go.Ground.chain }, { on := 0, ground := Go.Ground.phase }, { on := 1, ground := Go.Ground.phase }, { on := 2, ground := Go.Ground.phase }, { on := 3, ground := Go.Ground.phase }, { on := 4, ground := Go.Ground.phase }, { on := 5, ground := Go.Ground.phase }, { on := 6, ground := Go.Ground.phase }, { on := 7, ground := Go.Ground.phase }, { on := 8, ground := Go.Ground.phase }, { on := 9, ground := Go.Ground.phase }, { on := 10, ground := Go.Ground.phase }], guard := none }
abbrev exB0 : Oper := { dst := some 25, op := Go.Op.move (Go.Operand.tmp 7), type := 75, pos := "family.go:110", after := #[], guard := none }
abbrev exB1 : Oper := { dst := some 26, op := Go.Op.fieldAddr 111 (Go.Operand.tmp 2) 1, type := 0, pos := "family.go:110", after := #[], guard := none }
abbrev exB2 : Oper := { dst := some 27, op := Go.Op.load 38 (Go.Operand.tmp 26), type := 38, pos := "family.go:110", after := #[{ on := 1, ground := Go.Ground.data }], guard := none }
abbrev exB3 : Oper := { dst := some 28, op := Go.Op.move (Go.Operand.tmp 5), type := 38, pos := "family.go:110", after := #[], guard := none }
abbrev exB4 : Oper := { dst := some 29, op := Go.Op.fieldAddr 111 (Go.Operand.tmp 2) 1, type := 0, pos := "family.go:110", after := #[], guard := none }
abbrev exB5 : Oper := { dst := some 30, op := Go.Op.load 38 (Go.Operand.tmp 29), type := 38, pos := "family.go:110", after := #[{ on := 4, ground := Go.Ground.data }], guard := none }
abbrev exB6 : Oper := { dst := some 31, op := Go.Op.fieldAddr 111 (Go.Operand.tmp 3) 1, type := 0, pos := "family.go:110", after := #[], guard := none }
abbrev exB7 : Oper := { dst := some 32, op := Go.Op.load 38 (Go.Operand.tmp 31), type := 38, pos := "family.go:110", after := #[{ on := 6, ground := Go.Ground.data }], guard := none }
abbrev exB8 : Oper := { dst := some 33, op := Go.Op.call { callee := Go.Callee.value (Go.Operand.func 166), args := #[Go.Operand.tmp 32], argTypes := #[38] }, type := 3, pos := "family.go:113", after := #[{ on := 7, ground := Go.Ground.data }], guard := none }
abbrev exB9 : Oper := { dst := some 34, op := Go.Op.binOp Go.BinOp.add 3 (Go.Operand.tmp 33) (Go.Operand.const (Go.Value.int Go.IntKind.i64 1)) 3, type := 3, pos := "family.go:110", after := #[{ on := 8, ground := Go.Ground.data }], guard := none }
abbrev exB10 : Oper := { dst := some 35, op := Go.Op.call { callee := Go.Callee.value (Go.Operand.func 124), args := #[Go.Operand.tmp 30, Go.Operand.tmp 34, Go.Operand.const (Go.Value.int Go.IntKind.i64 3652424)], argTypes := #[38, 3, 3] }, type := 38, pos := "family.go:113", after := #[{ on := 5, ground := Go.Ground.data }, { on := 9, ground := Go.Ground.data }, { on := 8, ground := Go.Ground.chain }], guard := none }
abbrev exB11 : Oper := { dst := some 36, op := Go.Op.fieldAddr 111 (Go.Operand.tmp 2) 1, type := 0, pos := "family.go:110", after := #[], guard := none }
abbrev exB12 : Oper := { dst := some 37, op := Go.Op.load 38 (Go.Operand.tmp 36), type := 38, pos := "family.go:110", after := #[{ on := 11, ground := Go.Ground.data }], guard := none }
abbrev exB13 : Oper := { dst := some 38, op := Go.Op.fieldAddr 111 (Go.Operand.tmp 3) 2, type := 0, pos := "family.go:110", after := #[], guard := none }
abbrev exB14 : Oper := { dst := some 39, op := Go.Op.load 38 (Go.Operand.tmp 38), type := 38, pos := "family.go:110", after := #[{ on := 13, ground := Go.Ground.data }], guard := none }
abbrev exB15 : Oper := { dst := some 40, op := Go.Op.call { callee := Go.Callee.value (Go.Operand.func 167), args := #[Go.Operand.tmp 39, Go.Operand.const (Go.Value.int Go.IntKind.i64 1)], argTypes := #[38, 3] }, type := 38, pos := "family.go:114", after := #[{ on := 14, ground := Go.Ground.data }, { on := 10, ground := Go.Ground.chain }], guard := none }
abbrev exB16 : Oper := { dst := some 41, op := Go.Op.call { callee := Go.Callee.value (Go.Operand.func 123), args := #[Go.Operand.tmp 37, Go.Operand.tmp 40], argTypes := #[38, 38] }, type := 38, pos := "family.go:114", after := #[{ on := 12, ground := Go.Ground.data }, { on := 15, ground := Go.Ground.data }, { on := 15, ground := Go.Ground.chain }], guard := none }
abbrev exB17 : Oper := { dst := some 42, op := Go.Op.buildSlice 220 4 #[(0, Go.Operand.tmp 27), (1, Go.Operand.tmp 28), (2, Go.Operand.tmp 35), (3, Go.Operand.tmp 41)], type := 220, pos := "family.go:110", after := #[{ on := 2, ground := Go.Ground.data }, { on := 3, ground := Go.Ground.data }, { on := 10, ground := Go.Ground.data }, { on := 16, ground := Go.Ground.data }], guard := none }
abbrev exB18 : Oper := { dst := some 43, op := Go.Op.call { callee := Go.Callee.value (Go.Operand.func 164), args := #[Go.Operand.tmp 42], argTypes := #[220] }, type := 75, pos := "family.go:110", after := #[{ on := 17, ground := Go.Ground.data }, { on := 16, ground := Go.Ground.chain }], guard := none }
abbrev exB19 : Oper := { dst := some 44, op := Go.Op.buildSlice 221 2 #[(0, Go.Operand.tmp 25), (1, Go.Operand.tmp 43)], type := 221, pos := "family.go:110", after := #[{ on := 0, ground := Go.Ground.data }, { on := 18, ground := Go.Ground.data }], guard := none }
abbrev exB20 : Oper := { dst := some 45, op := Go.Op.call { callee := Go.Callee.value (Go.Operand.func 165), args := #[Go.Operand.tmp 44], argTypes := #[221] }, type := 75, pos := "family.go:110", after := #[{ on := 19, ground := Go.Ground.data }, { on := 18, ground := Go.Ground.chain }], guard := none }
abbrev exB21 : Oper := { dst := some 8, op := Go.Op.assign (Go.Operand.tmp 45), type := 75, pos := "family.go:110", after := #[{ on := 20, ground := Go.Ground.data }, { on := 20, ground := Go.Ground.chain }, { on := 0, ground := Go.Ground.phase }, { on := 1, ground := Go.Ground.phase }, { on := 2, ground := Go.Ground.phase }, { on := 3, ground := Go.Ground.phase }, { on := 4, ground := Go.Ground.phase }, { on := 5, ground := Go.Ground.phase }, { on := 6, ground := Go.Ground.phase }, { on := 7, ground := Go.Ground.phase }, { on := 8, ground := Go.Ground.phase }, { on := 9, ground := Go.Ground.phase }, { on := 10, ground := Go.Ground.phase }, { on := 11, ground := Go.Ground.phase }, { on := 12, ground := Go.Ground.phase }, { on := 13, ground := Go.Ground.phase }, { on := 14, ground := Go.Ground.phase }, { on := 15, ground := Go.Ground.phase }, { on := 16, ground := Go.Ground.phase }, { on := 17, ground := Go.Ground.phase }, { on := 18, ground := Go.Ground.phase }, { on := 19, ground := Go.Ground.phase }, { on := 20, ground := Go.Ground.phase }], guard := none }
abbrev exC0 : Oper := { dst := some 46, op := Go.Op.move (Go.Operand.tmp 7), type := 75, pos := "family.go:116", after := #[], guard := none }
abbrev exC1 : Oper := { dst := some 47, op := Go.Op.fieldAddr 111 (Go.Operand.tmp 2) 2, type := 0, pos := "family.go:116", after := #[], guard := none }
abbrev exC2 : Oper := { dst := some 48, op := Go.Op.load 38 (Go.Operand.tmp 47), type := 38, pos := "family.go:116", after := #[{ on := 1, ground := Go.Ground.data }], guard := none }
abbrev exC3 : Oper := { dst := some 49, op := Go.Op.move (Go.Operand.tmp 6), type := 38, pos := "family.go:116", after := #[], guard := none }
abbrev exC4 : Oper := { dst := some 50, op := Go.Op.fieldAddr 111 (Go.Operand.tmp 2) 2, type := 0, pos := "family.go:116", after := #[], guard := none }
abbrev exC5 : Oper := { dst := some 51, op := Go.Op.load 38 (Go.Operand.tmp 50), type := 38, pos := "family.go:116", after := #[{ on := 4, ground := Go.Ground.data }], guard := none }
abbrev exC6 : Oper := { dst := some 52, op := Go.Op.fieldAddr 111 (Go.Operand.tmp 3) 2, type := 0, pos := "family.go:116", after := #[], guard := none }
abbrev exC7 : Oper := { dst := some 53, op := Go.Op.load 38 (Go.Operand.tmp 52), type := 38, pos := "family.go:116", after := #[{ on := 6, ground := Go.Ground.data }], guard := none }
abbrev exC8 : Oper := { dst := some 54, op := Go.Op.call { callee := Go.Callee.value (Go.Operand.func 168), args := #[Go.Operand.tmp 53], argTypes := #[38] }, type := 3, pos := "family.go:119", after := #[{ on := 7, ground := Go.Ground.data }], guard := none }
abbrev exC9 : Oper := { dst := some 55, op := Go.Op.binOp Go.BinOp.sub 3 (Go.Operand.tmp 54) (Go.Operand.const (Go.Value.int Go.IntKind.i64 1)) 3, type := 3, pos := "family.go:116", after := #[{ on := 8, ground := Go.Ground.data }], guard := none }
abbrev exC10 : Oper := { dst := some 56, op := Go.Op.call { callee := Go.Callee.value (Go.Operand.func 124), args := #[Go.Operand.tmp 51, Go.Operand.const (Go.Value.int Go.IntKind.i64 0), Go.Operand.tmp 55], argTypes := #[38, 3, 3] }, type := 38, pos := "family.go:119", after := #[{ on := 5, ground := Go.Ground.data }, { on := 9, ground := Go.Ground.data }, { on := 8, ground := Go.Ground.chain }], guard := none }
abbrev exC11 : Oper := { dst := some 57, op := Go.Op.fieldAddr 111 (Go.Operand.tmp 2) 2, type := 0, pos := "family.go:116", after := #[], guard := none }
abbrev exC12 : Oper := { dst := some 58, op := Go.Op.load 38 (Go.Operand.tmp 57), type := 38, pos := "family.go:116", after := #[{ on := 11, ground := Go.Ground.data }], guard := none }
abbrev exC13 : Oper := { dst := some 59, op := Go.Op.fieldAddr 111 (Go.Operand.tmp 3) 1, type := 0, pos := "family.go:116", after := #[], guard := none }
abbrev exC14 : Oper := { dst := some 60, op := Go.Op.load 38 (Go.Operand.tmp 59), type := 38, pos := "family.go:116", after := #[{ on := 13, ground := Go.Ground.data }], guard := none }
abbrev exC15 : Oper := { dst := some 61, op := Go.Op.call { callee := Go.Callee.value (Go.Operand.func 167), args := #[Go.Operand.tmp 60, Go.Operand.const (Go.Value.int Go.IntKind.i64 (-1))], argTypes := #[38, 3] }, type := 38, pos := "family.go:120", after := #[{ on := 14, ground := Go.Ground.data }, { on := 10, ground := Go.Ground.chain }], guard := none }
abbrev exC16 : Oper := { dst := some 62, op := Go.Op.call { callee := Go.Callee.value (Go.Operand.func 123), args := #[Go.Operand.tmp 58, Go.Operand.tmp 61], argTypes := #[38, 38] }, type := 38, pos := "family.go:120", after := #[{ on := 12, ground := Go.Ground.data }, { on := 15, ground := Go.Ground.data }, { on := 15, ground := Go.Ground.chain }], guard := none }
abbrev exC17 : Oper := { dst := some 63, op := Go.Op.buildSlice 220 4 #[(0, Go.Operand.tmp 48), (1, Go.Operand.tmp 49), (2, Go.Operand.tmp 56), (3, Go.Operand.tmp 62)], type := 220, pos := "family.go:116", after := #[{ on := 2, ground := Go.Ground.data }, { on := 3, ground := Go.Ground.data }, { on := 10, ground := Go.Ground.data }, { on := 16, ground := Go.Ground.data }], guard := none }
abbrev exC18 : Oper := { dst := some 64, op := Go.Op.call { callee := Go.Callee.value (Go.Operand.func 164), args := #[Go.Operand.tmp 63], argTypes := #[220] }, type := 75, pos := "family.go:116", after := #[{ on := 17, ground := Go.Ground.data }, { on := 16, ground := Go.Ground.chain }], guard := none }
abbrev exC19 : Oper := { dst := some 65, op := Go.Op.buildSlice 221 2 #[(0, Go.Operand.tmp 46), (1, Go.Operand.tmp 64)], type := 221, pos := "family.go:116", after := #[{ on := 0, ground := Go.Ground.data }, { on := 18, ground := Go.Ground.data }], guard := none }
abbrev exC20 : Oper := { dst := some 66, op := Go.Op.call { callee := Go.Callee.value (Go.Operand.func 165), args := #[Go.Operand.tmp 65], argTypes := #[221] }, type := 75, pos := "family.go:116", after := #[{ on := 19, ground := Go.Ground.data }, { on := 18, ground := Go.Ground.chain }], guard := none }
abbrev exC21 : Oper := { dst := some 9, op := Go.Op.assign (Go.Operand.tmp 66), type := 75, pos := "family.go:116", after := #[{ on := 20, ground := Go.Ground.data }, { on := 20, ground := Go.Ground.chain }, { on := 0, ground := Go.Ground.phase }, { on := 1, ground := Go.Ground.phase }, { on := 2, ground := Go.Ground.phase }, { on := 3, ground := Go.Ground.phase }, { on := 4, ground := Go.Ground.phase }, { on := 5, ground := Go.Ground.phase }, { on := 6, ground := Go.Ground.phase }, { on := 7, ground := Go.Ground.phase }, { on := 8, ground := Go.Ground.phase }, { on := 9, ground := Go.Ground.phase }, { on := 10, ground := Go.Ground.phase }, { on := 11, ground := Go.Ground.phase }, { on := 12, ground := Go.Ground.phase }, { on := 13, ground := Go.Ground.phase }, { on := 14, ground := Go.Ground.phase }, { on := 15, ground := Go.Ground.phase }, { on := 16, ground := Go.Ground.phase }, { on := 17, ground := Go.Ground.phase }, { on := 18, ground := Go.Ground.phase }, { on := 19, ground := Go.Ground.phase }, { on := 20, ground := Go.Ground.phase }], guard := none }
theorem examples_any (d d' : Bool) (A B C D : List R) (va vb vc vd : Value) (w : World) (ha : RunsAt w va A) (hb : RunsAt w vb B) (hc : RunsAt w vc C) (hd : RunsAt w vd D) (H : LsOkP d A B) (H' : LsOkP d' C D)
  (nA : A.length ≤ 100000) (nB : B.length ≤ 100000) (nC : C.length ≤ 100000) (nD : D.length ≤ 100000) :
  Calls Tryz.prog 92 #[.agg #[.bool d, va, vb], .agg #[.bool d', vc, vd]] w fun e w' => ∃ v', e = .returned v' ∧ OwnP w' w.heap.size v' (exPs d A B C D) ∧ Kp w w' := by
 obtain ⟨i0, hi, hz0, hz1, hz2⟩ := info_parts infoZ
 obtain ⟨aa, ca, rfl⟩ := ha.slice
 obtain ⟨ab, cb, rfl⟩ := hb.slice
 obtain ⟨ac, cc, rfl⟩ := hc.slice
 obtain ⟨ad, cd, rfl⟩ := hd.slice
 obtain ⟨v0, hV⟩ : ∃ x, x = (w.alloc (.cells #[.bool d, .slice aa A.length ca, .slice ab B.length cb] 111)).alloc (.cells #[.bool d', .slice ac C.length cc, .slice ad D.length cd] 111) := ⟨_, rfl⟩
 have ka : Kp w v0 := by rw [hV]; exact (Kp.alloc _ _).trans (Kp.alloc _ _)
 have gf : v0.heap[w.heap.size]? = some (.cells #[.bool d, .slice aa A.length ca, .slice ab B.length cb] 111 (0, 0)) := by rw [hV]; exact heap_block (Kp.alloc _ _) (heap_at _ _ _ rfl)
 have gg : v0.heap[w.heap.size + 1]? = some (.cells #[.bool d', .slice ac C.length cc, .slice ad D.length cd] 111 (0, 0)) := by rw [hV]; exact heap_at _ _ _ (by simp)
 have KS := Lib.hid (fun w' (kq : Kp v0 w') => show w'.cell? ⟨w.heap.size, 0, none⟩ = some (.bool d) ∧ w'.cell? ⟨w.heap.size, 1, none⟩ = some (.slice aa A.length ca) ∧ w'.cell? ⟨w.heap.size, 2, none⟩ = some (.slice ab B.length cb) ∧ w'.cell? ⟨w.heap.size + 1, 1, none⟩ = some (.slice ac C.length cc) ∧ w'.cell? ⟨w.heap.size + 1, 2, none⟩ = some (.slice ad D.length cd) ∧ Kp v0 w' from ⟨(row3 (heap_block kq gf)).1, (row3 (heap_block kq gf)).2.1, (row3 (heap_block kq gf)).2.2, (row3 (heap_block kq gg)).2.1, (row3 (heap_block kq gg)).2.2, kq⟩)
 have HV := Lib.hid hV
 have KA := Lib.hid ka
 have ha := ha.kp ka
 have hb := hb.kp ka
 have hc := hc.kp ka
 have hd := hd.kp ka
 have bl := (H.ba _ H.lo.1)
 have lC := H'.ba _ H'.lo.1
 have gD := H'.bb _ H'.hi.1
 have n1 := interR_len H.sa H'.sa
 have n2 := interR_len H.sb H'.sb
 have n3 := interR_len (interR_sane A C) (interR_sane B D)
 have sh1 : nf (shR 1 1 (nf D)) = nf (shR 1 1 D) := by rw [nf_of_sane H'.sb]
 have sh2 : nf (shR (-1) (-1) (nf C)) = nf (shR (-1) (-1) C) := by rw [nf_of_sane H'.sa]
 have n5 : (nf (shR 1 1 D)).length ≤ D.length := Nat.le_trans (nf_len _) (by rw [shR_len]; exact Nat.le_refl _)
 have n8 : (nf (shR (-1) (-1) C)).length ≤ C.length := Nat.le_trans (nf_len _) (by rw [shR_len]; exact Nat.le_refl _)
 have y1 : I64R [(leastR C + 1, 3652424)] := by intro r hr; simp at hr; subst hr; simp only; omega
 have y2 : I64R [(0, greatR D - 1)] := by intro r hr; simp at hr; subst hr; simp only; omega
 have MS := Lib.hid (fun w1 (k : Kp v0 w1) => meet_any _ _ A C w1 (ha.kp k) (hc.kp k) (sane_i64 H.sa) (sane_i64 H'.sa) (by omega) (by omega))
 have ME := Lib.hid (fun w1 (k : Kp v0 w1) => meet_any _ _ B D w1 (hb.kp k) (hd.kp k) (sane_i64 H.sb) (sane_i64 H'.sb) (by omega) (by omega))
 have M3 := Lib.hid (fun u1 u2 w1 (h1 : RunsAt w1 u1 (interR A C)) (h2 : RunsAt w1 u2 (interR B D)) => meet_any u1 u2 _ _ w1 h1 h2 (sane_i64 (interR_sane _ _)) (sane_i64 (interR_sane _ _)) (by omega) (by omega))
 have CL := Lib.hid (fun w1 (k : Kp v0 w1) => clip_any _ A (leastR C + 1) 3652424 w1 (ha.kp k) (sane_i64 H.sa) (by omega) y1)
 have DL := Lib.hid (fun w1 (k : Kp v0 w1) => clip_any _ B 0 (greatR D - 1) w1 (hb.kp k) (sane_i64 H.sb) (by omega) y2)
 have SH := Lib.hid (fun w1 (k : Kp v0 w1) => shift_any _ D 1 w1 (hd.kp k) (sane_i64 H'.sb) (by omega))
 have TH := Lib.hid (fun w1 (k : Kp v0 w1) => shift_any _ C (-1) w1 (hc.kp k) (sane_i64 H'.sa) (by omega))
 rw [sh1] at SH
 rw [sh2] at TH
 have M6 := Lib.hid (fun u w1 (h : RunsAt w1 u (nf (shR 1 1 D))) (k : Kp v0 w1) => meet_any _ u A _ w1 (ha.kp k) h (sane_i64 H.sa) (sane_i64 (nf_sane _)) (by omega) (by omega))
 have M9 := Lib.hid (fun u w1 (h : RunsAt w1 u (nf (shR (-1) (-1) C))) (k : Kp v0 w1) => meet_any _ u B _ w1 (hb.kp k) h (sane_i64 H.sb) (sane_i64 (nf_sane _)) (by omega) (by omega))
 have n4 : (interR A [(leastR C + 1, 3652424)]).length ≤ 100000 * 1 := interR_bd nA (by simp)
 have n7 : (interR B [(0, greatR D - 1)]).length ≤ 100000 * 1 := interR_bd nB (by simp)
 have n6 := interR_len H.sa (nf_sane (shR 1 1 D))
 have n9 := interR_len H.sb (nf_sane (shR (-1) (-1) C))
 have LE := Lib.hid (fun w1 (k : Kp v0 w1) => rleast_any _ C w1 (hc.kp k) H'.na)
 have GR := Lib.hid (fun w1 (k : Kp v0 w1) => rgreat_any _ D w1 (hd.kp k) H'.nb (by omega))
 have ED1 := Lib.hid (fun v w1 (h : SsAt w1 v [interR (interR A C) (interR B D)]) => edges_any v _ w1 h (by simp) (l1_le (by omega)))
 have ED2 := Lib.hid (fun v w1 (h : SsAt w1 v [A, interR A C, interR A [(leastR C + 1, 3652424)], interR A (nf (shR 1 1 D))]) => edges_any v _ w1 h (by simp) (l4_le (by omega) (by omega) (by omega) (by omega)))
 have ED3 := Lib.hid (fun v w1 (h : SsAt w1 v [B, interR B D, interR B [(0, greatR D - 1)], interR B (nf (shR (-1) (-1) C))]) => edges_any v _ w1 h (by simp) (l4_le (by omega) (by omega) (by omega) (by omega)))
 have z1 := edg_len [interR (interR A C) (interR B D)]
 have z2 := edg_len [A, interR A C, interR A [(leastR C + 1, 3652424)], interR A (nf (shR 1 1 D))]
 have z3 := edg_len [B, interR B D, interR B [(0, greatR D - 1)], interR B (nf (shR (-1) (-1) C))]
 simp only [List.length_cons, List.length_nil] at z1 z2 z3
 have PX : exPs d A B C D = if d = true then ((edgL [interR (interR A C) (interR B D)] ++ edgL [A, interR A C, interR A [(leastR C + 1, 3652424)], interR A (nf (shR 1 1 D))]) ++ (edgL [interR (interR A C) (interR B D)] ++ edgL [B, interR B D, interR B [(0, greatR D - 1)], interR B (nf (shR (-1) (-1) C))])).map (fun x => (x, x)) else pairsL (edgL [interR (interR A C) (interR B D)] ++ edgL [A, interR A C, interR A [(leastR C + 1, 3652424)], interR A (nf (shR 1 1 D))]) (edgL [interR (interR A C) (interR B D)] ++ edgL [B, interR B D, interR B [(0, greatR D - 1)], interR B (nf (shR (-1) (-1) C))]) := rfl
 rw [PX]
 clear PX
 generalize edgL [A, interR A C, interR A [(leastR C + 1, 3652424)], interR A (nf (shR 1 1 D))] = Z2 at *
 generalize edgL [B, interR B D, interR B [(0, greatR D - 1)], interR B (nf (shR (-1) (-1) C))] = Z3 at *
 generalize edgL [interR (interR A C) (interR B D)] = Z1 at *
 have CO2 := Lib.hid (fun v w1 (h : ZsAt w1 v Z1 Z2) => concatZ_any v _ _ w1 h (by omega) (by omega))
 have CO3 := Lib.hid (fun v w1 (h : ZsAt w1 v Z1 Z3) => concatZ_any v _ _ w1 h (by omega) (by omega))
 have x2 : (Z1 ++ Z2).length ≤ 100 := by rw [List.length_append]; omega
 have x3 : (Z1 ++ Z3).length ≤ 100 := by rw [List.length_append]; omega
 generalize Z1 ++ Z2 = X at *
 generalize Z1 ++ Z3 = Y at *
 have HX2 := Lib.hid x2
 have HX3 := Lib.hid x3
 have SGL := Lib.hid (fun v w1 (h : IntsAt w1 v (X ++ Y)) => singleDays_any v _ w1 h (by rw [List.length_append]; omega))
 generalize List.map (fun x : Int => (x, x)) (X ++ Y) = XY at *
 have PRS := Lib.hid (fun v u w1 (h : IntsAt w1 v X) (g : IntsAt w1 u Y) => pairsOf_any v u _ _ w1 h g (by omega) (by omega))
 clear n1 n2 n3 n4 n5 n6 n7 n8 n9 z1 z2 z3 x2 x3 y1 y2 sh1 sh2
 generalize interR (interR A C) (interR B D) = E3 at *
 generalize interR A C = E1 at *
 generalize interR B D = E2 at *
 generalize interR A (nf (shR 1 1 D)) = E6 at *
 generalize interR B (nf (shR (-1) (-1) C)) = E9 at *
 generalize nf (shR 1 1 D) = E5 at *
 generalize nf (shR (-1) (-1) C) = E8 at *
 generalize interR A [(leastR C + 1, 3652424)] = E4 at *
 generalize interR B [(0, greatR D - 1)] = E7 at *
 have lc0 : 0 ≤ leastR C ∧ leastR C ≤ 3652424 := lC
 have gd0 : 0 ≤ greatR D ∧ greatR D ≤ 3652424 := gD
 generalize leastR C = lc at *
 generalize greatR D = gd at *
 have wl : IntKind.i64.wrap (lc + 1) = lc + 1 := by rw [IntKind.wrap_i64]; omega
 have wg : IntKind.i64.wrap (gd - 1) = gd - 1 := by rw [IntKind.wrap_i64]; omega
 have HA := Lib.hid ha
 have HB := Lib.hid hb
 clear ha hb hc hd H H' bl lC gD nA nB nC nD hV gf gg lc0 gd0 ka
 have kkv0 : Kp v0 v0 := Kp.refl _
 go_enter Tryz.func92, Tryz.ntmps92
 go_upto_region 1 with fail
 rw [← HV.out]
 clear HV
 have kbv0 : Kp v0 v0 := Kp.refl _
 go_cut [5, 6] from 10 (fun s5 s6 wx => ∃ a1 c1 a2 c2, s5 = .slice a1 E1.length c1 ∧ s6 = .slice a2 E2.length c2 ∧ Hid (RunsAt wx (.slice a1 E1.length c1) E1) ∧ Hid (RunsAt wx (.slice a2 E2.length c2) E2) ∧ Hid (Kp v0 wx))
 case first =>
  refine wp_region_held_drew (S := fun w' => w'.cell? ⟨w.heap.size, 0, none⟩ = some (.bool d) ∧ w'.cell? ⟨w.heap.size, 1, none⟩ = some (.slice aa A.length ca) ∧ w'.cell? ⟨w.heap.size, 2, none⟩ = some (.slice ab B.length cb) ∧ w'.cell? ⟨w.heap.size + 1, 1, none⟩ = some (.slice ac C.length cc) ∧ w'.cell? ⟨w.heap.size + 1, 2, none⟩ = some (.slice ad D.length cd) ∧ Kp v0 w') (by kernel_rfl) ?_ (fun hHeld0 => ?_)
  ·(try dsimp only); exact KS.out _ (by first | with_reducible exact kkv0 | ((repeat (first | with_reducible refine Kp.trans ?_ (Kp.drew _) | with_reducible refine Kp.trans ?_ (Kp.alloc _ _))); with_reducible exact kkv0))
  refine tkv 0 exA0 ?_
  (try simp only [Act.put, exA0, List.setIfInBounds_toArray, List.set_cons_zero, List.set_cons_succ])
  refine tkv 1 exA1 ?_
  (try simp only [Act.put, exA1, List.setIfInBounds_toArray, List.set_cons_zero, List.set_cons_succ])
  refine tkv 2 exA2 ?_
  (try simp only [Act.put, exA2, List.setIfInBounds_toArray, List.set_cons_zero, List.set_cons_succ])
  refine tkv 3 exA3 ?_
  (try simp only [Act.put, exA3, List.setIfInBounds_toArray, List.set_cons_zero, List.set_cons_succ])
  refine tkv 5 exA5 ?_
  (try simp only [Act.put, exA5, List.setIfInBounds_toArray, List.set_cons_zero, List.set_cons_succ])
  refine tkv 6 exA6 ?_
  (try simp only [Act.put, exA6, List.setIfInBounds_toArray, List.set_cons_zero, List.set_cons_succ])
  refine tkv 7 exA7 ?_
  (try simp only [Act.put, exA7, List.setIfInBounds_toArray, List.set_cons_zero, List.set_cons_succ])
  refine tkv 8 exA8 ?_
  (try simp only [Act.put, exA8, List.setIfInBounds_toArray, List.set_cons_zero, List.set_cons_succ])
  refine tkE 4 exA4 rfl (by kernel_rfl) (fun K hK => ?_)
  go_simp
  (refine (MS.out _ (by first | with_reducible exact kkv0 | ((repeat (first | with_reducible refine Kp.trans ?_ (Kp.drew _) | with_reducible refine Kp.trans ?_ (Kp.alloc _ _))); with_reducible exact kkv0))).mono ?_; rintro e wa ⟨v1, rfl, o1, kq1⟩; have kkwa : Kp v0 wa := Kp.trans (show Kp v0 _ from (by first | with_reducible exact kkv0 | ((repeat (first | with_reducible refine Kp.trans ?_ (Kp.drew _) | with_reducible refine Kp.trans ?_ (Kp.alloc _ _))); with_reducible exact kkv0))) kq1; have ks1 : Kp v0 wa := Kp.trans (show Kp v0 _ from (by first | with_reducible exact (Kp.refl v0) | ((repeat (first | with_reducible refine Kp.trans ?_ (Kp.drew _) | with_reducible refine Kp.trans ?_ (Kp.alloc _ _))); with_reducible exact (Kp.refl v0)))) kq1; have kbwa : Kp v0 wa := Kp.trans (show Kp v0 _ from (by first | with_reducible exact kbv0 | ((repeat (first | with_reducible refine Kp.trans ?_ (Kp.drew _) | with_reducible refine Kp.trans ?_ (Kp.alloc _ _))); with_reducible exact kbv0))) kq1; have O1 := Lib.hid (runsAt_own o1); obtain ⟨aO1, cO1, rfl⟩ := O1.out.slice; clear o1; clear kq1 ks1)
  (try go_wp2_with fail)
  refine hK.out _ _ ?_ (fun hHeld1 => ?_)
  ·(try dsimp only); exact KS.out _ (by first | with_reducible exact kkwa | ((repeat (first | with_reducible refine Kp.trans ?_ (Kp.drew _) | with_reducible refine Kp.trans ?_ (Kp.alloc _ _))); with_reducible exact kkwa))
  clear hK K hHeld0
  (try simp only [Act.put, exA4, List.setIfInBounds_toArray, List.set_cons_zero, List.set_cons_succ])
  refine tkE 9 exA9 rfl (by kernel_rfl) (fun K hK => ?_)
  go_simp
  (refine (ME.out _ (by first | with_reducible exact kkwa | ((repeat (first | with_reducible refine Kp.trans ?_ (Kp.drew _) | with_reducible refine Kp.trans ?_ (Kp.alloc _ _))); with_reducible exact kkwa))).mono ?_; rintro e wb ⟨v2, rfl, o2, kq1⟩; have kkwb : Kp v0 wb := Kp.trans (show Kp v0 _ from (by first | with_reducible exact kkwa | ((repeat (first | with_reducible refine Kp.trans ?_ (Kp.drew _) | with_reducible refine Kp.trans ?_ (Kp.alloc _ _))); with_reducible exact kkwa))) kq1; have ks1 : Kp wa wb := Kp.trans (show Kp wa _ from (by first | with_reducible exact (Kp.refl wa) | ((repeat (first | with_reducible refine Kp.trans ?_ (Kp.drew _) | with_reducible refine Kp.trans ?_ (Kp.alloc _ _))); with_reducible exact (Kp.refl wa)))) kq1; have kbwb : Kp v0 wb := Kp.trans (show Kp v0 _ from (by first | with_reducible exact kbwa | ((repeat (first | with_reducible refine Kp.trans ?_ (Kp.drew _) | with_reducible refine Kp.trans ?_ (Kp.alloc _ _))); with_reducible exact kbwa))) kq1; have O2 := Lib.hid (runsAt_own o2); obtain ⟨aO2, cO2, rfl⟩ := O2.out.slice; clear o2; replace O1 := Lib.hid (O1.out.kp ks1); clear kq1 ks1)
  (try go_wp2_with fail)
  refine hK.out _ _ ?_ (fun hHeld2 => ?_)
  ·(try dsimp only); exact KS.out _ (by first | with_reducible exact kkwb | ((repeat (first | with_reducible refine Kp.trans ?_ (Kp.drew _) | with_reducible refine Kp.trans ?_ (Kp.alloc _ _))); with_reducible exact kkwb))
  clear hK K hHeld1
  (try simp only [Act.put, exA9, List.setIfInBounds_toArray, List.set_cons_zero, List.set_cons_succ])
  refine tkv 10 exA10 ?_
  (try simp only [Act.put, exA10, List.setIfInBounds_toArray, List.set_cons_zero, List.set_cons_succ])
  refine tkv 11 exA11 ?_
  (try simp only [Act.put, exA11, List.setIfInBounds_toArray, List.set_cons_zero, List.set_cons_succ])
  refine wpAnyH_done (by kernel_rfl) ?_ _
  go_wp2
  go_meet
  case rel => exact ⟨_, _, _, _, rfl, rfl, Lib.hid (O1.out.kp (by first | with_reducible exact (Kp.refl wb) | ((repeat (first | with_reducible refine Kp.trans ?_ (Kp.drew _) | with_reducible refine Kp.trans ?_ (Kp.alloc _ _))); with_reducible exact (Kp.refl wb)))), Lib.hid (O2.out.kp (by first | with_reducible exact (Kp.refl wb) | ((repeat (first | with_reducible refine Kp.trans ?_ (Kp.drew _) | with_reducible refine Kp.trans ?_ (Kp.alloc _ _))); with_reducible exact (Kp.refl wb)))), Lib.hid (by first | with_reducible exact kkwb | ((repeat (first | with_reducible refine Kp.trans ?_ (Kp.drew _) | with_reducible refine Kp.trans ?_ (Kp.alloc _ _))); with_reducible exact kkwb))⟩
 obtain ⟨a1, c1, a2, c2, rfl, rfl, O1, O2, KC⟩ := hcut
 obtain ⟨w1, hw1⟩ : ∃ x, x = wc := ⟨_, rfl⟩
 subst hw1
 go_wp2_with fail
 refine (M3.out _ _ _ O1.out O2.out).mono ?_
 rintro e w2 ⟨v3, rfl, o3, k3⟩
 have O3 := Lib.hid (runsAt_own o3)
 obtain ⟨a3, c3, rfl⟩ := O3.out.slice
 have K3 := Lib.hid k3
 clear o3 k3
 go_wp2_with fail
 refine (ED1.out _ _ (ss_one O3.out)).mono ?_
 rintro e w3 ⟨v7, rfl, o7, k7⟩
 have O7 := Lib.hid (intsAt_ownZ o7)
 obtain ⟨a7, c7, rfl⟩ := O7.out.slice
 have ks : Kp w1 w3 := K3.out.trans ((Kp.alloc _ _).trans k7)
 have kkw3 : Kp v0 w3 := KC.out.trans ks
 replace O1 := Lib.hid (O1.out.kp ks)
 replace O2 := Lib.hid (O2.out.kp ks)
 clear o7 k7 K3 KC O3 ks
 go_upto_region 3 with fail
 have kbw3 : Kp w3 w3 := Kp.refl _
 go_cut [8] from 10 (fun s8 wx => ∃ a8 c8, s8 = .slice a8 X.length c8 ∧ Hid (wx.ownsRow v0.heap.size 3 1 (.slice a8 X.length c8) X.length (cellsZ X)) ∧ Hid (Kp w3 wx))
 case first =>
  refine wp_region_held_drew (S := fun w' => w'.cell? ⟨w.heap.size, 0, none⟩ = some (.bool d) ∧ w'.cell? ⟨w.heap.size, 1, none⟩ = some (.slice aa A.length ca) ∧ w'.cell? ⟨w.heap.size, 2, none⟩ = some (.slice ab B.length cb) ∧ w'.cell? ⟨w.heap.size + 1, 1, none⟩ = some (.slice ac C.length cc) ∧ w'.cell? ⟨w.heap.size + 1, 2, none⟩ = some (.slice ad D.length cd) ∧ Kp v0 w') (by kernel_rfl) ?_ (fun hHeld0 => ?_)
  ·(try dsimp only); exact KS.out _ (by first | with_reducible exact kkw3 | ((repeat (first | with_reducible refine Kp.trans ?_ (Kp.drew _) | with_reducible refine Kp.trans ?_ (Kp.alloc _ _))); with_reducible exact kkw3))
  refine tkv 0 exB0 ?_
  (try simp only [Act.put, exB0, List.setIfInBounds_toArray, List.set_cons_zero, List.set_cons_succ])
  refine tkv 1 exB1 ?_
  (try simp only [Act.put, exB1, List.setIfInBounds_toArray, List.set_cons_zero, List.set_cons_succ])
  refine tkv 2 exB2 ?_
  (try simp only [Act.put, exB2, List.setIfInBounds_toArray, List.set_cons_zero, List.set_cons_succ])
  refine tkv 3 exB3 ?_
  (try simp only [Act.put, exB3, List.setIfInBounds_toArray, List.set_cons_zero, List.set_cons_succ])
  refine tkv 4 exB4 ?_
  (try simp only [Act.put, exB4, List.setIfInBounds_toArray, List.set_cons_zero, List.set_cons_succ])
  refine tkv 5 exB5 ?_
  (try simp only [Act.put, exB5, List.setIfInBounds_toArray, List.set_cons_zero, List.set_cons_succ])
  refine tkv 6 exB6 ?_
  (try simp only [Act.put, exB6, List.setIfInBounds_toArray, List.set_cons_zero, List.set_cons_succ])
  refine tkv 7 exB7 ?_
  (try simp only [Act.put, exB7, List.setIfInBounds_toArray, List.set_cons_zero, List.set_cons_succ])
  refine tkv 11 exB11 ?_
  (try simp only [Act.put, exB11, List.setIfInBounds_toArray, List.set_cons_zero, List.set_cons_succ])
  refine tkv 12 exB12 ?_
  (try simp only [Act.put, exB12, List.setIfInBounds_toArray, List.set_cons_zero, List.set_cons_succ])
  refine tkv 13 exB13 ?_
  (try simp only [Act.put, exB13, List.setIfInBounds_toArray, List.set_cons_zero, List.set_cons_succ])
  refine tkv 14 exB14 ?_
  (try simp only [Act.put, exB14, List.setIfInBounds_toArray, List.set_cons_zero, List.set_cons_succ])
  refine tkE 8 exB8 rfl (by kernel_rfl) (fun K hK => ?_)
  go_simp
  (refine (LE.out _ (by first | with_reducible exact kkw3 | ((repeat (first | with_reducible refine Kp.trans ?_ (Kp.drew _) | with_reducible refine Kp.trans ?_ (Kp.alloc _ _))); with_reducible exact kkw3))).mono ?_; rintro e w' ⟨rfl, rfl⟩)
  (try go_wp2_with fail)
  refine hK.out _ _ ?_ (fun hHeld1 => ?_)
  ·(try dsimp only); exact KS.out _ (by first | with_reducible exact kkw3 | ((repeat (first | with_reducible refine Kp.trans ?_ (Kp.drew _) | with_reducible refine Kp.trans ?_ (Kp.alloc _ _))); with_reducible exact kkw3))
  clear hK K hHeld0
  (try simp only [Act.put, exB8, List.setIfInBounds_toArray, List.set_cons_zero, List.set_cons_succ])
  refine tkv 9 exB9 ?_
  (try simp only [Act.put, exB9, List.setIfInBounds_toArray, List.set_cons_zero, List.set_cons_succ])
  refine tkE 10 exB10 rfl (by kernel_rfl) (fun K hK => ?_)
  go_simp
  ((try rw [wl]); refine (CL.out _ (by first | with_reducible exact kkw3 | ((repeat (first | with_reducible refine Kp.trans ?_ (Kp.drew _) | with_reducible refine Kp.trans ?_ (Kp.alloc _ _))); with_reducible exact kkw3))).mono ?_; rintro e wc1 ⟨v4, rfl, o4, kq1⟩; have kkwc1 : Kp v0 wc1 := Kp.trans (show Kp v0 _ from (by first | with_reducible exact kkw3 | ((repeat (first | with_reducible refine Kp.trans ?_ (Kp.drew _) | with_reducible refine Kp.trans ?_ (Kp.alloc _ _))); with_reducible exact kkw3))) kq1; have ks1 : Kp w3 wc1 := Kp.trans (show Kp w3 _ from (by first | with_reducible exact (Kp.refl w3) | ((repeat (first | with_reducible refine Kp.trans ?_ (Kp.drew _) | with_reducible refine Kp.trans ?_ (Kp.alloc _ _))); with_reducible exact (Kp.refl w3)))) kq1; have kbwc1 : Kp w3 wc1 := Kp.trans (show Kp w3 _ from (by first | with_reducible exact kbw3 | ((repeat (first | with_reducible refine Kp.trans ?_ (Kp.drew _) | with_reducible refine Kp.trans ?_ (Kp.alloc _ _))); with_reducible exact kbw3))) kq1; have O4 := Lib.hid (runsAt_own o4); obtain ⟨aO4, cO4, rfl⟩ := O4.out.slice; clear o4; replace O1 := Lib.hid (O1.out.kp ks1); replace O2 := Lib.hid (O2.out.kp ks1); replace O7 := Lib.hid (O7.out.kp ks1); clear kq1 ks1)
  (try go_wp2_with fail)
  refine hK.out _ _ ?_ (fun hHeld2 => ?_)
  ·(try dsimp only); exact KS.out _ (by first | with_reducible exact kkwc1 | ((repeat (first | with_reducible refine Kp.trans ?_ (Kp.drew _) | with_reducible refine Kp.trans ?_ (Kp.alloc _ _))); with_reducible exact kkwc1))
  clear hK K hHeld1
  (try simp only [Act.put, exB10, List.setIfInBounds_toArray, List.set_cons_zero, List.set_cons_succ])
  refine tkE 15 exB15 rfl (by kernel_rfl) (fun K hK => ?_)
  go_simp
  (refine (SH.out _ (by first | with_reducible exact kkwc1 | ((repeat (first | with_reducible refine Kp.trans ?_ (Kp.drew _) | with_reducible refine Kp.trans ?_ (Kp.alloc _ _))); with_reducible exact kkwc1))).mono ?_; rintro e wc2 ⟨v5, rfl, o5, kq1⟩; have kkwc2 : Kp v0 wc2 := Kp.trans (show Kp v0 _ from (by first | with_reducible exact kkwc1 | ((repeat (first | with_reducible refine Kp.trans ?_ (Kp.drew _) | with_reducible refine Kp.trans ?_ (Kp.alloc _ _))); with_reducible exact kkwc1))) kq1; have ks1 : Kp wc1 wc2 := Kp.trans (show Kp wc1 _ from (by first | with_reducible exact (Kp.refl wc1) | ((repeat (first | with_reducible refine Kp.trans ?_ (Kp.drew _) | with_reducible refine Kp.trans ?_ (Kp.alloc _ _))); with_reducible exact (Kp.refl wc1)))) kq1; have kbwc2 : Kp w3 wc2 := Kp.trans (show Kp w3 _ from (by first | with_reducible exact kbwc1 | ((repeat (first | with_reducible refine Kp.trans ?_ (Kp.drew _) | with_reducible refine Kp.trans ?_ (Kp.alloc _ _))); with_reducible exact kbwc1))) kq1; have O5 := Lib.hid (runsAt_own o5); obtain ⟨aO5, cO5, rfl⟩ := O5.out.slice; clear o5; replace O1 := Lib.hid (O1.out.kp ks1); replace O2 := Lib.hid (O2.out.kp ks1); replace O7 := Lib.hid (O7.out.kp ks1); replace O4 := Lib.hid (O4.out.kp ks1); clear kq1 ks1)
  (try go_wp2_with fail)
  refine hK.out _ _ ?_ (fun hHeld3 => ?_)
  ·(try dsimp only); exact KS.out _ (by first | with_reducible exact kkwc2 | ((repeat (first | with_reducible refine Kp.trans ?_ (Kp.drew _) | with_reducible refine Kp.trans ?_ (Kp.alloc _ _))); with_reducible exact kkwc2))
  clear hK K hHeld2
  (try simp only [Act.put, exB15, List.setIfInBounds_toArray, List.set_cons_zero, List.set_cons_succ])
  refine tkE 16 exB16 rfl (by kernel_rfl) (fun K hK => ?_)
  go_simp
  (refine (M6.out _ _ (O5.out.kp (by first | with_reducible exact (Kp.refl wc2) | ((repeat (first | with_reducible refine Kp.trans ?_ (Kp.drew _) | with_reducible refine Kp.trans ?_ (Kp.alloc _ _))); with_reducible exact (Kp.refl wc2)))) (by first | with_reducible exact kkwc2 | ((repeat (first | with_reducible refine Kp.trans ?_ (Kp.drew _) | with_reducible refine Kp.trans ?_ (Kp.alloc _ _))); with_reducible exact kkwc2))).mono ?_; rintro e wc3 ⟨v6, rfl, o6, kq1⟩; have kkwc3 : Kp v0 wc3 := Kp.trans (show Kp v0 _ from (by first | with_reducible exact kkwc2 | ((repeat (first | with_reducible refine Kp.trans ?_ (Kp.drew _) | with_reducible refine Kp.trans ?_ (Kp.alloc _ _))); with_reducible exact kkwc2))) kq1; have ks1 : Kp wc2 wc3 := Kp.trans (show Kp wc2 _ from (by first | with_reducible exact (Kp.refl wc2) | ((repeat (first | with_reducible refine Kp.trans ?_ (Kp.drew _) | with_reducible refine Kp.trans ?_ (Kp.alloc _ _))); with_reducible exact (Kp.refl wc2)))) kq1; have kbwc3 : Kp w3 wc3 := Kp.trans (show Kp w3 _ from (by first | with_reducible exact kbwc2 | ((repeat (first | with_reducible refine Kp.trans ?_ (Kp.drew _) | with_reducible refine Kp.trans ?_ (Kp.alloc _ _))); with_reducible exact kbwc2))) kq1; have O6 := Lib.hid (runsAt_own o6); obtain ⟨aO6, cO6, rfl⟩ := O6.out.slice; clear o6; replace O1 := Lib.hid (O1.out.kp ks1); replace O2 := Lib.hid (O2.out.kp ks1); replace O7 := Lib.hid (O7.out.kp ks1); replace O4 := Lib.hid (O4.out.kp ks1); replace O5 := Lib.hid (O5.out.kp ks1); clear kq1 ks1)
  (try go_wp2_with fail)
  refine hK.out _ _ ?_ (fun hHeld4 => ?_)
  ·(try dsimp only); exact KS.out _ (by first | with_reducible exact kkwc3 | ((repeat (first | with_reducible refine Kp.trans ?_ (Kp.drew _) | with_reducible refine Kp.trans ?_ (Kp.alloc _ _))); with_reducible exact kkwc3))
  clear hK K hHeld3
  (try simp only [Act.put, exB16, List.setIfInBounds_toArray, List.set_cons_zero, List.set_cons_succ])
  refine tkE 17 exB17 rfl (by kernel_rfl) (fun K hK => ?_)
  go_simp
  skip
  (try go_wp2_with fail)
  refine hK.out _ _ ?_ (fun hHeld5 => ?_)
  ·(try dsimp only); exact KS.out _ (by first | with_reducible exact kkwc3 | ((repeat (first | with_reducible refine Kp.trans ?_ (Kp.drew _) | with_reducible refine Kp.trans ?_ (Kp.alloc _ _))); with_reducible exact kkwc3))
  clear hK K hHeld4
  (try simp only [Act.put, exB17, List.setIfInBounds_toArray, List.set_cons_zero, List.set_cons_succ])
  refine tkE 18 exB18 rfl (by kernel_rfl) (fun K hK => ?_)
  go_simp
  (refine (ED2.out _ _ (ss_four (HA.out.kp (by first | with_reducible exact kkwc3 | ((repeat (first | with_reducible refine Kp.trans ?_ (Kp.drew _) | with_reducible refine Kp.trans ?_ (Kp.alloc _ _))); with_reducible exact kkwc3))) (O1.out.kp (by first | with_reducible exact (Kp.refl wc3) | ((repeat (first | with_reducible refine Kp.trans ?_ (Kp.drew _) | with_reducible refine Kp.trans ?_ (Kp.alloc _ _))); with_reducible exact (Kp.refl wc3)))) (O4.out.kp (by first | with_reducible exact (Kp.refl wc3) | ((repeat (first | with_reducible refine Kp.trans ?_ (Kp.drew _) | with_reducible refine Kp.trans ?_ (Kp.alloc _ _))); with_reducible exact (Kp.refl wc3)))) (O6.out.kp (by first | with_reducible exact (Kp.refl wc3) | ((repeat (first | with_reducible refine Kp.trans ?_ (Kp.drew _) | with_reducible refine Kp.trans ?_ (Kp.alloc _ _))); with_reducible exact (Kp.refl wc3)))))).mono ?_; rintro e wc4 ⟨v9, rfl, o9, kq1⟩; have kkwc4 : Kp v0 wc4 := Kp.trans (show Kp v0 _ from (by first | with_reducible exact kkwc3 | ((repeat (first | with_reducible refine Kp.trans ?_ (Kp.drew _) | with_reducible refine Kp.trans ?_ (Kp.alloc _ _))); with_reducible exact kkwc3))) kq1; have ks1 : Kp wc3 wc4 := Kp.trans (show Kp wc3 _ from (by first | with_reducible exact (Kp.refl wc3) | ((repeat (first | with_reducible refine Kp.trans ?_ (Kp.drew _) | with_reducible refine Kp.trans ?_ (Kp.alloc _ _))); with_reducible exact (Kp.refl wc3)))) kq1; have kbwc4 : Kp w3 wc4 := Kp.trans (show Kp w3 _ from (by first | with_reducible exact kbwc3 | ((repeat (first | with_reducible refine Kp.trans ?_ (Kp.drew _) | with_reducible refine Kp.trans ?_ (Kp.alloc _ _))); with_reducible exact kbwc3))) kq1; have O9 := Lib.hid (intsAt_ownZ o9); obtain ⟨a9, c9, rfl⟩ := O9.out.slice; clear o9; replace O1 := Lib.hid (O1.out.kp ks1); replace O2 := Lib.hid (O2.out.kp ks1); replace O7 := Lib.hid (O7.out.kp ks1); replace O4 := Lib.hid (O4.out.kp ks1); replace O5 := Lib.hid (O5.out.kp ks1); replace O6 := Lib.hid (O6.out.kp ks1); clear kq1 ks1)
  (try go_wp2_with fail)
  refine hK.out _ _ ?_ (fun hHeld6 => ?_)
  ·(try dsimp only); exact KS.out _ (by first | with_reducible exact kkwc4 | ((repeat (first | with_reducible refine Kp.trans ?_ (Kp.drew _) | with_reducible refine Kp.trans ?_ (Kp.alloc _ _))); with_reducible exact kkwc4))
  clear hK K hHeld5
  (try simp only [Act.put, exB18, List.setIfInBounds_toArray, List.set_cons_zero, List.set_cons_succ])
  refine tkE 19 exB19 rfl (by kernel_rfl) (fun K hK => ?_)
  go_simp
  skip
  (try go_wp2_with fail)
  refine hK.out _ _ ?_ (fun hHeld7 => ?_)
  ·(try dsimp only); exact KS.out _ (by first | with_reducible exact kkwc4 | ((repeat (first | with_reducible refine Kp.trans ?_ (Kp.drew _) | with_reducible refine Kp.trans ?_ (Kp.alloc _ _))); with_reducible exact kkwc4))
  clear hK K hHeld6
  (try simp only [Act.put, exB19, List.setIfInBounds_toArray, List.set_cons_zero, List.set_cons_succ])
  refine tkE 20 exB20 rfl (by kernel_rfl) (fun K hK => ?_)
  go_simp
  (refine (CO2.out _ _ (zs_two (O7.out.kp (by first | with_reducible exact (Kp.refl wc4) | ((repeat (first | with_reducible refine Kp.trans ?_ (Kp.drew _) | with_reducible refine Kp.trans ?_ (Kp.alloc _ _))); with_reducible exact (Kp.refl wc4)))) (O9.out.kp (by first | with_reducible exact (Kp.refl wc4) | ((repeat (first | with_reducible refine Kp.trans ?_ (Kp.drew _) | with_reducible refine Kp.trans ?_ (Kp.alloc _ _))); with_reducible exact (Kp.refl wc4)))))).mono ?_; rintro e wc5 ⟨v8, rfl, o8, kq1⟩; have kkwc5 : Kp v0 wc5 := Kp.trans (show Kp v0 _ from (by first | with_reducible exact kkwc4 | ((repeat (first | with_reducible refine Kp.trans ?_ (Kp.drew _) | with_reducible refine Kp.trans ?_ (Kp.alloc _ _))); with_reducible exact kkwc4))) kq1; have ks1 : Kp wc4 wc5 := Kp.trans (show Kp wc4 _ from (by first | with_reducible exact (Kp.refl wc4) | ((repeat (first | with_reducible refine Kp.trans ?_ (Kp.drew _) | with_reducible refine Kp.trans ?_ (Kp.alloc _ _))); with_reducible exact (Kp.refl wc4)))) kq1; have kbwc5 : Kp w3 wc5 := Kp.trans (show Kp w3 _ from (by first | with_reducible exact kbwc4 | ((repeat (first | with_reducible refine Kp.trans ?_ (Kp.drew _) | with_reducible refine Kp.trans ?_ (Kp.alloc _ _))); with_reducible exact kbwc4))) kq1; have Q8 := Lib.hid (own_mono o8 (show Kp v0 _ from (by first | with_reducible exact kkwc4 | ((repeat (first | with_reducible refine Kp.trans ?_ (Kp.drew _) | with_reducible refine Kp.trans ?_ (Kp.alloc _ _))); with_reducible exact kkwc4))).size); obtain ⟨aX, cX, rfl⟩ := own_sliceZ o8; clear o8; replace O1 := Lib.hid (O1.out.kp ks1); replace O2 := Lib.hid (O2.out.kp ks1); replace O7 := Lib.hid (O7.out.kp ks1); replace O4 := Lib.hid (O4.out.kp ks1); replace O5 := Lib.hid (O5.out.kp ks1); replace O6 := Lib.hid (O6.out.kp ks1); replace O9 := Lib.hid (O9.out.kp ks1); clear kq1 ks1)
  (try go_wp2_with fail)
  refine hK.out _ _ ?_ (fun hHeld8 => ?_)
  ·(try dsimp only); exact KS.out _ (by first | with_reducible exact kkwc5 | ((repeat (first | with_reducible refine Kp.trans ?_ (Kp.drew _) | with_reducible refine Kp.trans ?_ (Kp.alloc _ _))); with_reducible exact kkwc5))
  clear hK K hHeld7
  (try simp only [Act.put, exB20, List.setIfInBounds_toArray, List.set_cons_zero, List.set_cons_succ])
  refine tkv 21 exB21 ?_
  (try simp only [Act.put, exB21, List.setIfInBounds_toArray, List.set_cons_zero, List.set_cons_succ])
  refine wpAnyH_done (by kernel_rfl) ?_ _
  go_wp2
  go_meet
  case rel => exact ⟨_, _, rfl, Lib.hid (own_kp Q8.out (by first | with_reducible exact (Kp.refl wc5) | ((repeat (first | with_reducible refine Kp.trans ?_ (Kp.drew _) | with_reducible refine Kp.trans ?_ (Kp.alloc _ _))); with_reducible exact (Kp.refl wc5)))), Lib.hid (by first | with_reducible exact kbwc5 | ((repeat (first | with_reducible refine Kp.trans ?_ (Kp.drew _) | with_reducible refine Kp.trans ?_ (Kp.alloc _ _))); with_reducible exact kbwc5))⟩
 obtain ⟨a8, c8, rfl, Q0, KD⟩ := hcut
 obtain ⟨w4, hw1⟩ : ∃ x, x = wc := ⟨_, rfl⟩
 subst hw1
 have kkw4 : Kp v0 w4 := kkw3.trans KD.out
 replace O2 := Lib.hid (O2.out.kp KD.out)
 replace O7 := Lib.hid (O7.out.kp KD.out)
 clear O1 KD
 go_upto_region 4 with fail
 have kbw4 : Kp w4 w4 := Kp.refl _
 go_cut [9] from 10 (fun s9 wx => ∃ a9 c9, s9 = .slice a9 Y.length c9 ∧ Hid (wx.ownsRow v0.heap.size 3 1 (.slice a9 Y.length c9) Y.length (cellsZ Y)) ∧ Hid (wx.ownsRow v0.heap.size 3 1 (.slice a8 X.length c8) X.length (cellsZ X)) ∧ Hid (Kp v0 wx))
 case first =>
  refine wp_region_held_drew (S := fun w' => w'.cell? ⟨w.heap.size, 0, none⟩ = some (.bool d) ∧ w'.cell? ⟨w.heap.size, 1, none⟩ = some (.slice aa A.length ca) ∧ w'.cell? ⟨w.heap.size, 2, none⟩ = some (.slice ab B.length cb) ∧ w'.cell? ⟨w.heap.size + 1, 1, none⟩ = some (.slice ac C.length cc) ∧ w'.cell? ⟨w.heap.size + 1, 2, none⟩ = some (.slice ad D.length cd) ∧ Kp v0 w') (by kernel_rfl) ?_ (fun hHeld0 => ?_)
  ·(try dsimp only); exact KS.out _ (by first | with_reducible exact kkw4 | ((repeat (first | with_reducible refine Kp.trans ?_ (Kp.drew _) | with_reducible refine Kp.trans ?_ (Kp.alloc _ _))); with_reducible exact kkw4))
  refine tkv 0 exC0 ?_
  (try simp only [Act.put, exC0, List.setIfInBounds_toArray, List.set_cons_zero, List.set_cons_succ])
  refine tkv 1 exC1 ?_
  (try simp only [Act.put, exC1, List.setIfInBounds_toArray, List.set_cons_zero, List.set_cons_succ])
  refine tkv 2 exC2 ?_
  (try simp only [Act.put, exC2, List.setIfInBounds_toArray, List.set_cons_zero, List.set_cons_succ])
  refine tkv 3 exC3 ?_
  (try simp only [Act.put, exC3, List.setIfInBounds_toArray, List.set_cons_zero, List.set_cons_succ])
  refine tkv 4 exC4 ?_
  (try simp only [Act.put, exC4, List.setIfInBounds_toArray, List.set_cons_zero, List.set_cons_succ])
  refine tkv 5 exC5 ?_
  (try simp only [Act.put, exC5, List.setIfInBounds_toArray, List.set_cons_zero, List.set_cons_succ])
  refine tkv 6 exC6 ?_
  (try simp only [Act.put, exC6, List.setIfInBounds_toArray, List.set_cons_zero, List.set_cons_succ])
  refine tkv 7 exC7 ?_
  (try simp only [Act.put, exC7, List.setIfInBounds_toArray, List.set_cons_zero, List.set_cons_succ])
  refine tkv 11 exC11 ?_
  (try simp only [Act.put, exC11, List.setIfInBounds_toArray, List.set_cons_zero, List.set_cons_succ])
  refine tkv 12 exC12 ?_
  (try simp only [Act.put, exC12, List.setIfInBounds_toArray, List.set_cons_zero, List.set_cons_succ])
  refine tkv 13 exC13 ?_
  (try simp only [Act.put, exC13, List.setIfInBounds_toArray, List.set_cons_zero, List.set_cons_succ])
  refine tkv 14 exC14 ?_
  (try simp only [Act.put, exC14, List.setIfInBounds_toArray, List.set_cons_zero, List.set_cons_succ])
  refine tkE 8 exC8 rfl (by kernel_rfl) (fun K hK => ?_)
  go_simp
  (refine (GR.out _ (by first | with_reducible exact kkw4 | ((repeat (first | with_reducible refine Kp.trans ?_ (Kp.drew _) | with_reducible refine Kp.trans ?_ (Kp.alloc _ _))); with_reducible exact kkw4))).mono ?_; rintro e w' ⟨rfl, rfl⟩)
  (try go_wp2_with fail)
  refine hK.out _ _ ?_ (fun hHeld1 => ?_)
  ·(try dsimp only); exact KS.out _ (by first | with_reducible exact kkw4 | ((repeat (first | with_reducible refine Kp.trans ?_ (Kp.drew _) | with_reducible refine Kp.trans ?_ (Kp.alloc _ _))); with_reducible exact kkw4))
  clear hK K hHeld0
  (try simp only [Act.put, exC8, List.setIfInBounds_toArray, List.set_cons_zero, List.set_cons_succ])
  refine tkv 9 exC9 ?_
  (try simp only [Act.put, exC9, List.setIfInBounds_toArray, List.set_cons_zero, List.set_cons_succ])
  refine tkE 10 exC10 rfl (by kernel_rfl) (fun K hK => ?_)
  go_simp
  ((try rw [wg]); refine (DL.out _ (by first | with_reducible exact kkw4 | ((repeat (first | with_reducible refine Kp.trans ?_ (Kp.drew _) | with_reducible refine Kp.trans ?_ (Kp.alloc _ _))); with_reducible exact kkw4))).mono ?_; rintro e wc1 ⟨v4, rfl, o4, kq1⟩; have kkwc1 : Kp v0 wc1 := Kp.trans (show Kp v0 _ from (by first | with_reducible exact kkw4 | ((repeat (first | with_reducible refine Kp.trans ?_ (Kp.drew _) | with_reducible refine Kp.trans ?_ (Kp.alloc _ _))); with_reducible exact kkw4))) kq1; have ks1 : Kp w4 wc1 := Kp.trans (show Kp w4 _ from (by first | with_reducible exact (Kp.refl w4) | ((repeat (first | with_reducible refine Kp.trans ?_ (Kp.drew _) | with_reducible refine Kp.trans ?_ (Kp.alloc _ _))); with_reducible exact (Kp.refl w4)))) kq1; have kbwc1 : Kp w4 wc1 := Kp.trans (show Kp w4 _ from (by first | with_reducible exact kbw4 | ((repeat (first | with_reducible refine Kp.trans ?_ (Kp.drew _) | with_reducible refine Kp.trans ?_ (Kp.alloc _ _))); with_reducible exact kbw4))) kq1; have O4 := Lib.hid (runsAt_own o4); obtain ⟨aO4, cO4, rfl⟩ := O4.out.slice; clear o4; replace O2 := Lib.hid (O2.out.kp ks1); replace O7 := Lib.hid (O7.out.kp ks1); replace Q0 := Lib.hid (own_kp Q0.out ks1); clear kq1 ks1)
  (try go_wp2_with fail)
  refine hK.out _ _ ?_ (fun hHeld2 => ?_)
  ·(try dsimp only); exact KS.out _ (by first | with_reducible exact kkwc1 | ((repeat (first | with_reducible refine Kp.trans ?_ (Kp.drew _) | with_reducible refine Kp.trans ?_ (Kp.alloc _ _))); with_reducible exact kkwc1))
  clear hK K hHeld1
  (try simp only [Act.put, exC10, List.setIfInBounds_toArray, List.set_cons_zero, List.set_cons_succ])
  refine tkE 15 exC15 rfl (by kernel_rfl) (fun K hK => ?_)
  go_simp
  (refine (TH.out _ (by first | with_reducible exact kkwc1 | ((repeat (first | with_reducible refine Kp.trans ?_ (Kp.drew _) | with_reducible refine Kp.trans ?_ (Kp.alloc _ _))); with_reducible exact kkwc1))).mono ?_; rintro e wc2 ⟨v5, rfl, o5, kq1⟩; have kkwc2 : Kp v0 wc2 := Kp.trans (show Kp v0 _ from (by first | with_reducible exact kkwc1 | ((repeat (first | with_reducible refine Kp.trans ?_ (Kp.drew _) | with_reducible refine Kp.trans ?_ (Kp.alloc _ _))); with_reducible exact kkwc1))) kq1; have ks1 : Kp wc1 wc2 := Kp.trans (show Kp wc1 _ from (by first | with_reducible exact (Kp.refl wc1) | ((repeat (first | with_reducible refine Kp.trans ?_ (Kp.drew _) | with_reducible refine Kp.trans ?_ (Kp.alloc _ _))); with_reducible exact (Kp.refl wc1)))) kq1; have kbwc2 : Kp w4 wc2 := Kp.trans (show Kp w4 _ from (by first | with_reducible exact kbwc1 | ((repeat (first | with_reducible refine Kp.trans ?_ (Kp.drew _) | with_reducible refine Kp.trans ?_ (Kp.alloc _ _))); with_reducible exact kbwc1))) kq1; have O5 := Lib.hid (runsAt_own o5); obtain ⟨aO5, cO5, rfl⟩ := O5.out.slice; clear o5; replace O2 := Lib.hid (O2.out.kp ks1); replace O7 := Lib.hid (O7.out.kp ks1); replace Q0 := Lib.hid (own_kp Q0.out ks1); replace O4 := Lib.hid (O4.out.kp ks1); clear kq1 ks1)
  (try go_wp2_with fail)
  refine hK.out _ _ ?_ (fun hHeld3 => ?_)
  ·(try dsimp only); exact KS.out _ (by first | with_reducible exact kkwc2 | ((repeat (first | with_reducible refine Kp.trans ?_ (Kp.drew _) | with_reducible refine Kp.trans ?_ (Kp.alloc _ _))); with_reducible exact kkwc2))
  clear hK K hHeld2
  (try simp only [Act.put, exC15, List.setIfInBounds_toArray, List.set_cons_zero, List.set_cons_succ])
  refine tkE 16 exC16 rfl (by kernel_rfl) (fun K hK => ?_)
  go_simp
  (refine (M9.out _ _ (O5.out.kp (by first | with_reducible exact (Kp.refl wc2) | ((repeat (first | with_reducible refine Kp.trans ?_ (Kp.drew _) | with_reducible refine Kp.trans ?_ (Kp.alloc _ _))); with_reducible exact (Kp.refl wc2)))) (by first | with_reducible exact kkwc2 | ((repeat (first | with_reducible refine Kp.trans ?_ (Kp.drew _) | with_reducible refine Kp.trans ?_ (Kp.alloc _ _))); with_reducible exact kkwc2))).mono ?_; rintro e wc3 ⟨v6, rfl, o6, kq1⟩; have kkwc3 : Kp v0 wc3 := Kp.trans (show Kp v0 _ from (by first | with_reducible exact kkwc2 | ((repeat (first | with_reducible refine Kp.trans ?_ (Kp.drew _) | with_reducible refine Kp.trans ?_ (Kp.alloc _ _))); with_reducible exact kkwc2))) kq1; have ks1 : Kp wc2 wc3 := Kp.trans (show Kp wc2 _ from (by first | with_reducible exact (Kp.refl wc2) | ((repeat (first | with_reducible refine Kp.trans ?_ (Kp.drew _) | with_reducible refine Kp.trans ?_ (Kp.alloc _ _))); with_reducible exact (Kp.refl wc2)))) kq1; have kbwc3 : Kp w4 wc3 := Kp.trans (show Kp w4 _ from (by first | with_reducible exact kbwc2 | ((repeat (first | with_reducible refine Kp.trans ?_ (Kp.drew _) | with_reducible refine Kp.trans ?_ (Kp.alloc _ _))); with_reducible exact kbwc2))) kq1; have O6 := Lib.hid (runsAt_own o6); obtain ⟨aO6, cO6, rfl⟩ := O6.out.slice; clear o6; replace O2 := Lib.hid (O2.out.kp ks1); replace O7 := Lib.hid (O7.out.kp ks1); replace Q0 := Lib.hid (own_kp Q0.out ks1); replace O4 := Lib.hid (O4.out.kp ks1); replace O5 := Lib.hid (O5.out.kp ks1); clear kq1 ks1)
  (try go_wp2_with fail)
  refine hK.out _ _ ?_ (fun hHeld4 => ?_)
  ·(try dsimp only); exact KS.out _ (by first | with_reducible exact kkwc3 | ((repeat (first | with_reducible refine Kp.trans ?_ (Kp.drew _) | with_reducible refine Kp.trans ?_ (Kp.alloc _ _))); with_reducible exact kkwc3))
  clear hK K hHeld3
  (try simp only [Act.put, exC16, List.setIfInBounds_toArray, List.set_cons_zero, List.set_cons_succ])
  refine tkE 17 exC17 rfl (by kernel_rfl) (fun K hK => ?_)
  go_simp
  skip
  (try go_wp2_with fail)
  refine hK.out _ _ ?_ (fun hHeld5 => ?_)
  ·(try dsimp only); exact KS.out _ (by first | with_reducible exact kkwc3 | ((repeat (first | with_reducible refine Kp.trans ?_ (Kp.drew _) | with_reducible refine Kp.trans ?_ (Kp.alloc _ _))); with_reducible exact kkwc3))
  clear hK K hHeld4
  (try simp only [Act.put, exC17, List.setIfInBounds_toArray, List.set_cons_zero, List.set_cons_succ])
  refine tkE 18 exC18 rfl (by kernel_rfl) (fun K hK => ?_)
  go_simp
  (refine (ED3.out _ _ (ss_four (HB.out.kp (by first | with_reducible exact kkwc3 | ((repeat (first | with_reducible refine Kp.trans ?_ (Kp.drew _) | with_reducible refine Kp.trans ?_ (Kp.alloc _ _))); with_reducible exact kkwc3))) (O2.out.kp (by first | with_reducible exact (Kp.refl wc3) | ((repeat (first | with_reducible refine Kp.trans ?_ (Kp.drew _) | with_reducible refine Kp.trans ?_ (Kp.alloc _ _))); with_reducible exact (Kp.refl wc3)))) (O4.out.kp (by first | with_reducible exact (Kp.refl wc3) | ((repeat (first | with_reducible refine Kp.trans ?_ (Kp.drew _) | with_reducible refine Kp.trans ?_ (Kp.alloc _ _))); with_reducible exact (Kp.refl wc3)))) (O6.out.kp (by first | with_reducible exact (Kp.refl wc3) | ((repeat (first | with_reducible refine Kp.trans ?_ (Kp.drew _) | with_reducible refine Kp.trans ?_ (Kp.alloc _ _))); with_reducible exact (Kp.refl wc3)))))).mono ?_; rintro e wc4 ⟨v9, rfl, o9, kq1⟩; have kkwc4 : Kp v0 wc4 := Kp.trans (show Kp v0 _ from (by first | with_reducible exact kkwc3 | ((repeat (first | with_reducible refine Kp.trans ?_ (Kp.drew _) | with_reducible refine Kp.trans ?_ (Kp.alloc _ _))); with_reducible exact kkwc3))) kq1; have ks1 : Kp wc3 wc4 := Kp.trans (show Kp wc3 _ from (by first | with_reducible exact (Kp.refl wc3) | ((repeat (first | with_reducible refine Kp.trans ?_ (Kp.drew _) | with_reducible refine Kp.trans ?_ (Kp.alloc _ _))); with_reducible exact (Kp.refl wc3)))) kq1; have kbwc4 : Kp w4 wc4 := Kp.trans (show Kp w4 _ from (by first | with_reducible exact kbwc3 | ((repeat (first | with_reducible refine Kp.trans ?_ (Kp.drew _) | with_reducible refine Kp.trans ?_ (Kp.alloc _ _))); with_reducible exact kbwc3))) kq1; have O9 := Lib.hid (intsAt_ownZ o9); obtain ⟨a9, c9, rfl⟩ := O9.out.slice; clear o9; replace O2 := Lib.hid (O2.out.kp ks1); replace O7 := Lib.hid (O7.out.kp ks1); replace Q0 := Lib.hid (own_kp Q0.out ks1); replace O4 := Lib.hid (O4.out.kp ks1); replace O5 := Lib.hid (O5.out.kp ks1); replace O6 := Lib.hid (O6.out.kp ks1); clear kq1 ks1)
  (try go_wp2_with fail)
  refine hK.out _ _ ?_ (fun hHeld6 => ?_)
  ·(try dsimp only); exact KS.out _ (by first | with_reducible exact kkwc4 | ((repeat (first | with_reducible refine Kp.trans ?_ (Kp.drew _) | with_reducible refine Kp.trans ?_ (Kp.alloc _ _))); with_reducible exact kkwc4))
  clear hK K hHeld5
  (try simp only [Act.put, exC18, List.setIfInBounds_toArray, List.set_cons_zero, List.set_cons_succ])
  refine tkE 19 exC19 rfl (by kernel_rfl) (fun K hK => ?_)
  go_simp
  skip
  (try go_wp2_with fail)
  refine hK.out _ _ ?_ (fun hHeld7 => ?_)
  ·(try dsimp only); exact KS.out _ (by first | with_reducible exact kkwc4 | ((repeat (first | with_reducible refine Kp.trans ?_ (Kp.drew _) | with_reducible refine Kp.trans ?_ (Kp.alloc _ _))); with_reducible exact kkwc4))
  clear hK K hHeld6
  (try simp only [Act.put, exC19, List.setIfInBounds_toArray, List.set_cons_zero, List.set_cons_succ])
  refine tkE 20 exC20 rfl (by kernel_rfl) (fun K hK => ?_)
  go_simp
  (refine (CO3.out _ _ (zs_two (O7.out.kp (by first | with_reducible exact (Kp.refl wc4) | ((repeat (first | with_reducible refine Kp.trans ?_ (Kp.drew _) | with_reducible refine Kp.trans ?_ (Kp.alloc _ _))); with_reducible exact (Kp.refl wc4)))) (O9.out.kp (by first | with_reducible exact (Kp.refl wc4) | ((repeat (first | with_reducible refine Kp.trans ?_ (Kp.drew _) | with_reducible refine Kp.trans ?_ (Kp.alloc _ _))); with_reducible exact (Kp.refl wc4)))))).mono ?_; rintro e wc5 ⟨v8, rfl, o8, kq1⟩; have kkwc5 : Kp v0 wc5 := Kp.trans (show Kp v0 _ from (by first | with_reducible exact kkwc4 | ((repeat (first | with_reducible refine Kp.trans ?_ (Kp.drew _) | with_reducible refine Kp.trans ?_ (Kp.alloc _ _))); with_reducible exact kkwc4))) kq1; have ks1 : Kp wc4 wc5 := Kp.trans (show Kp wc4 _ from (by first | with_reducible exact (Kp.refl wc4) | ((repeat (first | with_reducible refine Kp.trans ?_ (Kp.drew _) | with_reducible refine Kp.trans ?_ (Kp.alloc _ _))); with_reducible exact (Kp.refl wc4)))) kq1; have kbwc5 : Kp w4 wc5 := Kp.trans (show Kp w4 _ from (by first | with_reducible exact kbwc4 | ((repeat (first | with_reducible refine Kp.trans ?_ (Kp.drew _) | with_reducible refine Kp.trans ?_ (Kp.alloc _ _))); with_reducible exact kbwc4))) kq1; have Q8 := Lib.hid (own_mono o8 (show Kp v0 _ from (by first | with_reducible exact kkwc4 | ((repeat (first | with_reducible refine Kp.trans ?_ (Kp.drew _) | with_reducible refine Kp.trans ?_ (Kp.alloc _ _))); with_reducible exact kkwc4))).size); obtain ⟨aX, cX, rfl⟩ := own_sliceZ o8; clear o8; replace O2 := Lib.hid (O2.out.kp ks1); replace O7 := Lib.hid (O7.out.kp ks1); replace Q0 := Lib.hid (own_kp Q0.out ks1); replace O4 := Lib.hid (O4.out.kp ks1); replace O5 := Lib.hid (O5.out.kp ks1); replace O6 := Lib.hid (O6.out.kp ks1); replace O9 := Lib.hid (O9.out.kp ks1); clear kq1 ks1)
  (try go_wp2_with fail)
  refine hK.out _ _ ?_ (fun hHeld8 => ?_)
  ·(try dsimp only); exact KS.out _ (by first | with_reducible exact kkwc5 | ((repeat (first | with_reducible refine Kp.trans ?_ (Kp.drew _) | with_reducible refine Kp.trans ?_ (Kp.alloc _ _))); with_reducible exact kkwc5))
  clear hK K hHeld7
  (try simp only [Act.put, exC20, List.setIfInBounds_toArray, List.set_cons_zero, List.set_cons_succ])
  refine tkv 21 exC21 ?_
  (try simp only [Act.put, exC21, List.setIfInBounds_toArray, List.set_cons_zero, List.set_cons_succ])
  refine wpAnyH_done (by kernel_rfl) ?_ _
  go_wp2
  go_meet
  case rel => exact ⟨_, _, rfl, Lib.hid (own_kp Q8.out (by first | with_reducible exact (Kp.refl wc5) | ((repeat (first | with_reducible refine Kp.trans ?_ (Kp.drew _) | with_reducible refine Kp.trans ?_ (Kp.alloc _ _))); with_reducible exact (Kp.refl wc5)))), Lib.hid (own_kp Q0.out (by first | with_reducible exact (Kp.refl wc5) | ((repeat (first | with_reducible refine Kp.trans ?_ (Kp.drew _) | with_reducible refine Kp.trans ?_ (Kp.alloc _ _))); with_reducible exact (Kp.refl wc5)))), Lib.hid (by first | with_reducible exact kkwc5 | ((repeat (first | with_reducible refine Kp.trans ?_ (Kp.drew _) | with_reducible refine Kp.trans ?_ (Kp.alloc _ _))); with_reducible exact kkwc5))⟩
 obtain ⟨a9, c9, rfl, Q9, Q8, KE⟩ := hcut
 obtain ⟨w5, hw1⟩ : ∃ x, x = wc := ⟨_, rfl⟩
 subst hw1
 obtain ⟨f0, -, -, -, -, -⟩ := KS.out _ KE.out
 clear O2 O7 Q0
 have sz := KE.out.size
 cases d with
 | true =>
  have hb1 := HX2.out
  have hb2 := HX3.out
  go_wp2_with (at_builtin; refine wpList_app rfl (.tmp 69) (.tmp 70) 75 rfl v0.heap.size 3 i0 (.int .i64 0) 1 8 Tryz.underlying75 hi hz0 hz1 hz2 rfl (by decide) _ _ _ rfl Q8.out _ _ _ rfl (intsAt_ownZ Q9.out).src (by rw [cellsZ_length]; omega) (cellsZ_one _) (by unfold maxLen; omega) (by omega) (by omega) ?_; intro v1 w6 hown1 hgrow1 hat1)
  have O6 := Lib.hid (intsAt_ownZ (own_lenZ hown1))
  have K6 := Lib.hid (Kp.grown KE.out hgrow1 (fun j hj => (Q8.out.lt j hj).1))
  obtain ⟨a6, c6, rfl⟩ := O6.out.slice
  go_wp2_with fail
  refine (SGL.out _ _ O6.out).mono ?_
  rintro e w7 ⟨v7, rfl, o7, k7⟩
  have O7 := Lib.hid o7
  have K7 := Lib.hid k7
  clear o7 k7
  go_wp2
  go_ret
  exact ⟨_, rfl, own_mono O7.out (KA.out.trans K6.out).size, (KA.out.trans K6.out).trans K7.out⟩
 | false =>
  go_wp2_with fail
  refine (PRS.out _ _ _ (intsAt_ownZ Q8.out) (intsAt_ownZ Q9.out)).mono ?_
  rintro e w7 ⟨v7, rfl, o7, k7⟩
  have O7 := Lib.hid o7
  have K7 := Lib.hid k7
  clear o7 k7
  go_wp2
  go_ret
  exact ⟨_, rfl, own_mono O7.out (KA.out.trans KE.out).size, (KA.out.trans KE.out).trans K7.out⟩
end Go.Proofs.YtjdnejglapnbbaaGreatDoor
