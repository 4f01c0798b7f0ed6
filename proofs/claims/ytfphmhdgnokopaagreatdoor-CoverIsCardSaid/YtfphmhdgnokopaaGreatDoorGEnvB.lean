/-
  Joined: EnvG, EnvH, EnvI.
-/
import Derived.Test.YtfphmhdgnokopaaGreatDoorGRef
import Derived.Test.YtfphmhdgnokopaaGreatDoorGEnv
import Derived.StillTailTactics
import Derived.LoopTactic
namespace Go.Proofs.YtfphmhdgnokopaaGreatDoor
open Go.RowKit
set_option linter.unusedVariables false
set_option linter.unusedSimpArgs false
/-- the four days of one family -/
def four (F : Fam) : List Int := [dLS F, dGS F, dLE F, dGE F]
/-- the four values as the reference has them, of a tidied leaf -/
def fourL (g : LF) : Int × Int × Int × Int := if g.sp = true then (leastR g.a, greatR g.a, leastR g.b, greatR g.b) else (firV g.u (leastR g.a), firV g.u (greatR g.a), lasV g.u (leastR g.a), lasV g.u (greatR g.a))
theorem fourL_fam {F : Fam} (h : FOK F) (h0 : emptyF F = false) : fourL (lfOf F) = (dLS F, dGS F, dLE F, dGE F) ∧ 0 < (lfOf F).a.length ∧ ((lfOf F).sp = true → 0 < (lfOf F).b.length) := by
  cases F with
  | units k s =>
    unfold emptyF at h0
    have h1 := of_decide_eq_false h0
    rw [lfOf_u1 h1]
    exact ⟨rfl, by simp only; omega, fun e => by simp at e⟩
  | span s e =>
    unfold emptyF at h0
    have h1 := of_decide_eq_false h0
    have ss := setB_sane h.1
    obtain ⟨m, hm, _⟩ := h.2.2.1 _ (least_mem ss (by omega))
    rw [lfOf_s1 h1]
    exact ⟨rfl, by simp only; omega, fun _ => mem_pos hm⟩
abbrev eN0 : Oper := { dst := some 29, op := Go.Op.move (Go.Operand.tmp 3), type := 3, pos := "ref.go:15", after := #[], guard := none }
abbrev eN1 : Oper := { dst := some 30, op := Go.Op.move (Go.Operand.tmp 4), type := 3, pos := "ref.go:15", after := #[], guard := none }
abbrev eN2 : Oper := { dst := some 31, op := Go.Op.fieldAddr 24 (Go.Operand.tmp 1) 3, type := 0, pos := "ref.go:15", after := #[], guard := none }
abbrev eN3 : Oper := { dst := some 32, op := Go.Op.load 22 (Go.Operand.tmp 31), type := 22, pos := "ref.go:15", after := #[{ on := 2, ground := Go.Ground.data }], guard := none }
abbrev eN4 : Oper := { dst := some 33, op := Go.Op.indexAddr 22 (Go.Operand.tmp 32) (Go.Operand.const (Go.Value.int Go.IntKind.i64 0)), type := 0, pos := "ref.go:15", after := #[{ on := 3, ground := Go.Ground.data }], guard := none }
abbrev eN5 : Oper := { dst := some 34, op := Go.Op.fieldAddr 51 (Go.Operand.tmp 33) 0, type := 0, pos := "ref.go:15", after := #[{ on := 4, ground := Go.Ground.data }], guard := none }
abbrev eN6 : Oper := { dst := some 35, op := Go.Op.load 3 (Go.Operand.tmp 34), type := 3, pos := "ref.go:15", after := #[{ on := 5, ground := Go.Ground.data }], guard := none }
abbrev eN7 : Oper := { dst := some 36, op := Go.Op.fieldAddr 24 (Go.Operand.tmp 1) 3, type := 0, pos := "ref.go:15", after := #[], guard := none }
abbrev eN8 : Oper := { dst := some 37, op := Go.Op.load 22 (Go.Operand.tmp 36), type := 22, pos := "ref.go:15", after := #[{ on := 7, ground := Go.Ground.data }], guard := none }
abbrev eN9 : Oper := { dst := some 38, op := Go.Op.fieldAddr 24 (Go.Operand.tmp 1) 3, type := 0, pos := "ref.go:15", after := #[], guard := none }
abbrev eN10 : Oper := { dst := some 39, op := Go.Op.load 22 (Go.Operand.tmp 38), type := 22, pos := "ref.go:15", after := #[{ on := 9, ground := Go.Ground.data }], guard := none }
abbrev eN11 : Oper := { dst := some 40, op := Go.Op.call { callee := Go.Callee.builtin Go.Builtin.len, args := #[Go.Operand.tmp 39], argTypes := #[22] }, type := 3, pos := "ref.go:15", after := #[{ on := 10, ground := Go.Ground.data }], guard := none }
abbrev eN12 : Oper := { dst := some 41, op := Go.Op.binOp Go.BinOp.sub 3 (Go.Operand.tmp 40) (Go.Operand.const (Go.Value.int Go.IntKind.i64 1)) 3, type := 3, pos := "ref.go:15", after := #[{ on := 11, ground := Go.Ground.data }], guard := none }
abbrev eN13 : Oper := { dst := some 42, op := Go.Op.indexAddr 22 (Go.Operand.tmp 37) (Go.Operand.tmp 41), type := 0, pos := "ref.go:15", after := #[{ on := 8, ground := Go.Ground.data }, { on := 12, ground := Go.Ground.data }], guard := none }
abbrev eN14 : Oper := { dst := some 43, op := Go.Op.fieldAddr 51 (Go.Operand.tmp 42) 1, type := 0, pos := "ref.go:15", after := #[{ on := 13, ground := Go.Ground.data }], guard := none }
abbrev eN15 : Oper := { dst := some 44, op := Go.Op.load 3 (Go.Operand.tmp 43), type := 3, pos := "ref.go:15", after := #[{ on := 14, ground := Go.Ground.data }], guard := none }
abbrev eN16 : Oper := { dst := some 45, op := Go.Op.build 84 #[(0, Go.Operand.tmp 29), (1, Go.Operand.tmp 30), (2, Go.Operand.tmp 35), (3, Go.Operand.tmp 44)], type := 84, pos := "ref.go:15", after := #[{ on := 0, ground := Go.Ground.data }, { on := 1, ground := Go.Ground.data }, { on := 6, ground := Go.Ground.data }, { on := 15, ground := Go.Ground.data }], guard := none }
abbrev eN17 : Oper := { dst := none, op := Go.Op.store 84 (Go.Operand.tmp 2) (Go.Operand.tmp 45), type := 0, pos := "ref.go:15", after := #[{ on := 16, ground := Go.Ground.data }, { on := 0, ground := Go.Ground.phase }, { on := 1, ground := Go.Ground.phase }, { on := 2, ground := Go.Ground.phase }, { on := 3, ground := Go.Ground.phase }, { on := 4, ground := Go.Ground.phase }, { on := 5, ground := Go.Ground.phase }, { on := 6, ground := Go.Ground.phase }, { on := 7, ground := Go.Ground.phase }, { on := 8, ground := Go.Ground.phase }, { on := 9, ground := Go.Ground.phase }, { on := 10, ground := Go.Ground.phase }, { on := 11, ground := Go.Ground.phase }, { on := 12, ground := Go.Ground.phase }, { on := 13, ground := Go.Ground.phase }, { on := 14, ground := Go.Ground.phase }, { on := 15, ground := Go.Ground.phase }, { on := 16, ground := Go.Ground.phase }], guard := none }
set_option maxHeartbeats 16000000 in
set_option maxRecDepth 100000 in
theorem refEnds_units (k : Int) (s : List R) (va vb : Value) (w : World) (hv : RunsAt w va s) (hb : RunsAt w vb []) (h0 : 0 < s.length) (hn : s.length ≤ 1000) :
    Calls Tryz.prog 124 #[.agg #[.bool false, .int .i64 k, va, vb]] w fun e w' => e = .returned (.agg #[.int .i64 (firV k (leastR s)), .int .i64 (firV k (greatR s)), .int .i64 (lasV k (leastR s)), .int .i64 (lasV k (greatR s))]) ∧ Kp w w' := by
  obtain ⟨ba, oa, c, ev, x0, x1⟩ := ends_at hv h0
  subst ev
  obtain ⟨bd, d, rfl⟩ := hb.slice
  have wt : (s.length : Int) - 1 = ((s.length - 1 : Nat) : Int) := by omega
  have wu : IntKind.i64.wrap ((s.length - 1 : Nat) : Int) = ((s.length - 1 : Nat) : Int) := IntWalk.i64_in _ (by omega)
  have wx : s.length - 1 < s.length := by omega
  have wy : ((s.length - 1 : Nat) : Int) < (s.length : Int) := by omega
  have wv : (0 : Int) ≤ ((s.length - 1 : Nat) : Int) := by omega
  have za := World.block_lt_of_cell? w _ x0
  have hf := fun x w1 => rfirst_any k x w1
  have hl := fun x w1 => rlast_any k x w1
  have HF := Lib.hid hf
  have HL := Lib.hid hl
  clear hf hl hb hv
  generalize leastR s = x at *
  generalize greatR s = y at *
  go_enter Tryz.func124, Tryz.ntmps124
  go_wp2_with fail
  refine (HF.out _ _).mono ?_
  rintro e w' ⟨rfl, rfl⟩
  go_wp2_with fail
  refine (HF.out _ _).mono ?_
  rintro e w' ⟨rfl, rfl⟩
  go_wp2_with fail
  refine (HL.out _ _).mono ?_
  rintro e w' ⟨rfl, rfl⟩
  go_wp2_with fail
  refine (HL.out _ _).mono ?_
  rintro e w' ⟨rfl, rfl⟩
  go_wp2
  exact bodyPost_ret (v := .agg #[.int .i64 (firV k x), .int .i64 (firV k y), .int .i64 (lasV k x), .int .i64 (lasV k y)]) (by simp [results, Tryz.f124, go_sem]) rfl ⟨rfl, (Kp.alloc _ _).trans (Kp.alloc _ _)⟩
set_option maxHeartbeats 16000000 in
set_option maxRecDepth 100000 in
theorem refEnds_span (s t : List R) (va vb : Value) (w : World) (hv : RunsAt w va s) (hb : RunsAt w vb t) (h0 : 0 < s.length) (hn : s.length ≤ 1000) (h1 : 0 < t.length) (hm : t.length ≤ 1000) :
    Calls Tryz.prog 124 #[.agg #[.bool true, .int .i64 0, va, vb]] w fun e w' => e = .returned (.agg #[.int .i64 (leastR s), .int .i64 (greatR s), .int .i64 (leastR t), .int .i64 (greatR t)]) ∧ Kp w w' := by
  obtain ⟨ba, oa, c, ev, x0, x1⟩ := ends_at hv h0
  subst ev
  obtain ⟨bb, ob, d, ev, y0, y1⟩ := ends_at hb h1
  subst ev
  have wt : (s.length : Int) - 1 = ((s.length - 1 : Nat) : Int) := by omega
  have wu : IntKind.i64.wrap ((s.length - 1 : Nat) : Int) = ((s.length - 1 : Nat) : Int) := IntWalk.i64_in _ (by omega)
  have wx : s.length - 1 < s.length := by omega
  have wy : ((s.length - 1 : Nat) : Int) < (s.length : Int) := by omega
  have wv : (0 : Int) ≤ ((s.length - 1 : Nat) : Int) := by omega
  have vt : (t.length : Int) - 1 = ((t.length - 1 : Nat) : Int) := by omega
  have vu : IntKind.i64.wrap ((t.length - 1 : Nat) : Int) = ((t.length - 1 : Nat) : Int) := IntWalk.i64_in _ (by omega)
  have vx : t.length - 1 < t.length := by omega
  have vy : ((t.length - 1 : Nat) : Int) < (t.length : Int) := by omega
  have vv : (0 : Int) ≤ ((t.length - 1 : Nat) : Int) := by omega
  have za := World.block_lt_of_cell? w _ x0
  have zb := World.block_lt_of_cell? w _ y0
  have za' : ba ≠ w.heap.size ∧ ba ≠ w.heap.size + 1 := by simp at za; omega
  have zb' : bb ≠ w.heap.size ∧ bb ≠ w.heap.size + 1 := by simp at zb; omega
  clear hb hv
  generalize leastR s = x at *
  generalize greatR s = y at *
  generalize leastR t = p at *
  generalize greatR t = q at *
  obtain ⟨W1, hW1⟩ : ∃ x, x = w.alloc (.cells #[.bool true, .int .i64 0, .slice (some ⟨ba, oa, none⟩) s.length c, .slice (some ⟨bb, ob, none⟩) t.length d] 24) := ⟨_, rfl⟩
  have k1 : Kp w W1 := by rw [hW1]; exact Kp.alloc _ _
  have b0 : W1.cell? ⟨w.heap.size, 0, none⟩ = some (.bool true) := by rw [hW1]; simp
  have b1 : W1.cell? ⟨w.heap.size, 1, none⟩ = some (.int .i64 0) := by rw [hW1]; simp
  have b2 : W1.cell? ⟨w.heap.size, 2, none⟩ = some (.slice (some ⟨ba, oa, none⟩) s.length c) := by rw [hW1]; simp
  have b3 : W1.cell? ⟨w.heap.size, 3, none⟩ = some (.slice (some ⟨bb, ob, none⟩) t.length d) := by rw [hW1]; simp
  have hs : W1.heap.size = w.heap.size + 1 := by rw [hW1]; simp
  have KS := Lib.hid (fun w' (k : Kp W1 w') => show w'.cell? ⟨w.heap.size, 0, none⟩ = some (.bool true) ∧ w'.cell? ⟨w.heap.size, 1, none⟩ = some (.int .i64 0) ∧ w'.cell? ⟨w.heap.size, 2, none⟩ = some (.slice (some ⟨ba, oa, none⟩) s.length c) ∧ w'.cell? ⟨w.heap.size, 3, none⟩ = some (.slice (some ⟨bb, ob, none⟩) t.length d) ∧ w'.cell? ⟨ba, oa, none⟩ = some (.int .i64 x) ∧ w'.cell? ⟨ba, oa + (s.length - 1) * 2 + 1, none⟩ = some (.int .i64 y) ∧ w'.cell? ⟨bb, ob, none⟩ = some (.int .i64 p) ∧ w'.cell? ⟨bb, ob + (t.length - 1) * 2 + 1, none⟩ = some (.int .i64 q) ∧ Kp W1 w' from ⟨cell_up k b0, cell_up k b1, cell_up k b2, cell_up k b3, cell_up (k1.trans k) x0, cell_up (k1.trans k) x1, cell_up (k1.trans k) y0, cell_up (k1.trans k) y1, k⟩)
  obtain ⟨W0, hW0⟩ : ∃ x, x = W1.alloc (.cells #[.int .i64 0, .int .i64 0, .int .i64 0, .int .i64 0] 84) := ⟨_, rfl⟩
  have kW := Lib.hid (show Kp W1 W0 by rw [hW0]; exact Kp.alloc _ _)
  have hB : W0.heap[w.heap.size + 1]? = some (.cells #[.int .i64 0, .int .i64 0, .int .i64 0, .int .i64 0] 84 (0, 0)) := by rw [hW0]; exact heap_at _ _ _ hs
  have K1 := Lib.hid k1
  have HW := Lib.hid (show W0 = (w.alloc (.cells #[.bool true, .int .i64 0, .slice (some ⟨ba, oa, none⟩) s.length c, .slice (some ⟨bb, ob, none⟩) t.length d] 24)).alloc (.cells #[.int .i64 0, .int .i64 0, .int .i64 0, .int .i64 0] 84) by rw [hW0, hW1])
  have HS := Lib.hid hs
  clear hW1 hW0 hs k1 b0 b1 b2 b3
  go_enter Tryz.func124, Tryz.ntmps124
  go_wp2_with fail
  rw [← HW.out]
  obtain ⟨c0, c1, c2, c3, x0', x1', y0', y1', _⟩ := KS.out W0 kW.out
  obtain ⟨X, hX⟩ : ∃ x, x = W0.drew := ⟨_, rfl⟩
  have hBX : X.heap[w.heap.size + 1]? = some (.cells #[.int .i64 0, .int .i64 0, .int .i64 0, .int .i64 0] 84 (0, 0)) := by rw [hX]; exact hB
  have kX := Lib.hid (show Kp W1 X by rw [hX]; exact kW.out.trans (Kp.drew _))
  have r0 : X.cell? ⟨w.heap.size + 1, 0, none⟩ = some (.int .i64 0) := by simp [World.cell?, hBX]
  have r1 : X.cell? ⟨w.heap.size + 1, 1, none⟩ = some (.int .i64 0) := by simp [World.cell?, hBX]
  have r2 : X.cell? ⟨w.heap.size + 1, 2, none⟩ = some (.int .i64 0) := by simp [World.cell?, hBX]
  have r3 : X.cell? ⟨w.heap.size + 1, 3, none⟩ = some (.int .i64 0) := by simp [World.cell?, hBX]
  have f0 : X.frozen? ⟨w.heap.size + 1, 0, none⟩ = false := by simp [World.frozen?, hBX]
  have f1 : X.frozen? ⟨w.heap.size + 1, 1, none⟩ = false := by simp [World.frozen?, hBX]
  have f2 : X.frozen? ⟨w.heap.size + 1, 2, none⟩ = false := by simp [World.frozen?, hBX]
  have f3 : X.frozen? ⟨w.heap.size + 1, 3, none⟩ = false := by simp [World.frozen?, hBX]
  have HBX := Lib.hid hBX
  have hsX := kX.out.size
  clear hB hBX
  refine wp_region_held_drew (S := fun w' => w'.cell? ⟨w.heap.size, 0, none⟩ = some (.bool true) ∧ w'.cell? ⟨w.heap.size, 1, none⟩ = some (.int .i64 0) ∧ w'.cell? ⟨w.heap.size, 2, none⟩ = some (.slice (some ⟨ba, oa, none⟩) s.length c) ∧ w'.cell? ⟨w.heap.size, 3, none⟩ = some (.slice (some ⟨bb, ob, none⟩) t.length d) ∧ w'.cell? ⟨ba, oa, none⟩ = some (.int .i64 x) ∧ w'.cell? ⟨ba, oa + (s.length - 1) * 2 + 1, none⟩ = some (.int .i64 y) ∧ w'.cell? ⟨bb, ob, none⟩ = some (.int .i64 p) ∧ w'.cell? ⟨bb, ob + (t.length - 1) * 2 + 1, none⟩ = some (.int .i64 q) ∧ Kp W1 w') (by kernel_rfl) ?_ (fun hHeld0 => ?_)
  · rw [← hX]; exact KS.out _ kX.out
  rw [← hX] at hHeld0 ⊢
  clear hX
  refine tkW (v := ?_) 0 eN0 rfl (by kernel_rfl) (by kernel_rfl) (by kernel_rfl) (fun _ _ _ h => h) (by rfl) ?_ (by assumption) ?_
  rotate_left
  · intro w hSw; (try dsimp only at hSw); go_simp; (try with_reducible rfl)
  (try simp only [Act.put, eN0, List.setIfInBounds_toArray, List.set_cons_zero, List.set_cons_succ])
  refine tkW (v := ?_) 1 eN1 rfl (by kernel_rfl) (by kernel_rfl) (by kernel_rfl) (fun _ _ _ h => h) (by rfl) ?_ (by assumption) ?_
  rotate_left
  · intro w hSw; (try dsimp only at hSw); go_simp; (try with_reducible rfl)
  (try simp only [Act.put, eN1, List.setIfInBounds_toArray, List.set_cons_zero, List.set_cons_succ])
  refine tkW (v := ?_) 2 eN2 rfl (by kernel_rfl) (by kernel_rfl) (by kernel_rfl) (fun _ _ _ h => h) (by rfl) ?_ (by assumption) ?_
  rotate_left
  · intro w hSw; (try dsimp only at hSw); go_simp; (try with_reducible rfl)
  (try simp only [Act.put, eN2, List.setIfInBounds_toArray, List.set_cons_zero, List.set_cons_succ])
  refine tkW (v := ?_) 3 eN3 rfl (by kernel_rfl) (by kernel_rfl) (by kernel_rfl) (fun _ _ _ h => h) (by rfl) ?_ (by assumption) ?_
  rotate_left
  · intro w hSw; (try dsimp only at hSw); go_simp; (try with_reducible rfl)
  (try simp only [Act.put, eN3, List.setIfInBounds_toArray, List.set_cons_zero, List.set_cons_succ])
  refine tkW (v := ?_) 4 eN4 rfl (by kernel_rfl) (by kernel_rfl) (by kernel_rfl) (fun _ _ _ h => h) (by rfl) ?_ (by assumption) ?_
  rotate_left
  · intro w hSw; (try dsimp only at hSw); go_simp; (try with_reducible rfl)
  (try simp only [Act.put, eN4, List.setIfInBounds_toArray, List.set_cons_zero, List.set_cons_succ])
  refine tkW (v := ?_) 5 eN5 rfl (by kernel_rfl) (by kernel_rfl) (by kernel_rfl) (fun _ _ _ h => h) (by rfl) ?_ (by assumption) ?_
  rotate_left
  · intro w hSw; (try dsimp only at hSw); go_simp; (try with_reducible rfl)
  (try simp only [Act.put, eN5, List.setIfInBounds_toArray, List.set_cons_zero, List.set_cons_succ])
  refine tkW (v := ?_) 6 eN6 rfl (by kernel_rfl) (by kernel_rfl) (by kernel_rfl) (fun _ _ _ h => h) (by rfl) ?_ (by assumption) ?_
  rotate_left
  · intro w hSw; (try dsimp only at hSw); go_simp; (try with_reducible rfl)
  (try simp only [Act.put, eN6, List.setIfInBounds_toArray, List.set_cons_zero, List.set_cons_succ])
  refine tkW (v := ?_) 7 eN7 rfl (by kernel_rfl) (by kernel_rfl) (by kernel_rfl) (fun _ _ _ h => h) (by rfl) ?_ (by assumption) ?_
  rotate_left
  · intro w hSw; (try dsimp only at hSw); go_simp; (try with_reducible rfl)
  (try simp only [Act.put, eN7, List.setIfInBounds_toArray, List.set_cons_zero, List.set_cons_succ])
  refine tkW (v := ?_) 8 eN8 rfl (by kernel_rfl) (by kernel_rfl) (by kernel_rfl) (fun _ _ _ h => h) (by rfl) ?_ (by assumption) ?_
  rotate_left
  · intro w hSw; (try dsimp only at hSw); go_simp; (try with_reducible rfl)
  (try simp only [Act.put, eN8, List.setIfInBounds_toArray, List.set_cons_zero, List.set_cons_succ])
  refine tkW (v := ?_) 9 eN9 rfl (by kernel_rfl) (by kernel_rfl) (by kernel_rfl) (fun _ _ _ h => h) (by rfl) ?_ (by assumption) ?_
  rotate_left
  · intro w hSw; (try dsimp only at hSw); go_simp; (try with_reducible rfl)
  (try simp only [Act.put, eN9, List.setIfInBounds_toArray, List.set_cons_zero, List.set_cons_succ])
  refine tkW (v := ?_) 10 eN10 rfl (by kernel_rfl) (by kernel_rfl) (by kernel_rfl) (fun _ _ _ h => h) (by rfl) ?_ (by assumption) ?_
  rotate_left
  · intro w hSw; (try dsimp only at hSw); go_simp; (try with_reducible rfl)
  (try simp only [Act.put, eN10, List.setIfInBounds_toArray, List.set_cons_zero, List.set_cons_succ])
  refine tkW (v := ?_) 11 eN11 rfl (by kernel_rfl) (by kernel_rfl) (by kernel_rfl) (fun _ _ _ h => h) (by rfl) ?_ (by assumption) ?_
  rotate_left
  · intro w hSw; (try dsimp only at hSw); go_simp; (try with_reducible rfl)
  (try simp only [Act.put, eN11, List.setIfInBounds_toArray, List.set_cons_zero, List.set_cons_succ])
  refine tkW (v := ?_) 12 eN12 rfl (by kernel_rfl) (by kernel_rfl) (by kernel_rfl) (fun _ _ _ h => h) (by rfl) ?_ (by assumption) ?_
  rotate_left
  · intro w hSw; (try dsimp only at hSw); go_simp; (try with_reducible rfl)
  (try simp only [Act.put, eN12, List.setIfInBounds_toArray, List.set_cons_zero, List.set_cons_succ])
  refine tkW (v := ?_) 13 eN13 rfl (by kernel_rfl) (by kernel_rfl) (by kernel_rfl) (fun _ _ _ h => h) (by rfl) ?_ (by assumption) ?_
  rotate_left
  · intro w hSw; (try dsimp only at hSw); go_simp; (try with_reducible rfl)
  (try simp only [Act.put, eN13, List.setIfInBounds_toArray, List.set_cons_zero, List.set_cons_succ])
  refine tkW (v := ?_) 14 eN14 rfl (by kernel_rfl) (by kernel_rfl) (by kernel_rfl) (fun _ _ _ h => h) (by rfl) ?_ (by assumption) ?_
  rotate_left
  · intro w hSw; (try dsimp only at hSw); go_simp; (try with_reducible rfl)
  (try simp only [Act.put, eN14, List.setIfInBounds_toArray, List.set_cons_zero, List.set_cons_succ])
  refine tkW (v := ?_) 15 eN15 rfl (by kernel_rfl) (by kernel_rfl) (by kernel_rfl) (fun _ _ _ h => h) (by rfl) ?_ (by assumption) ?_
  rotate_left
  · intro w hSw; (try dsimp only at hSw); go_simp; (try with_reducible rfl)
  (try simp only [Act.put, eN15, List.setIfInBounds_toArray, List.set_cons_zero, List.set_cons_succ])
  refine tkW (v := ?_) 16 eN16 rfl (by kernel_rfl) (by kernel_rfl) (by kernel_rfl) (fun _ _ _ h => h) (by rfl) ?_ (by assumption) ?_
  rotate_left
  · intro w hSw; (try dsimp only at hSw); go_simp; (try with_reducible rfl)
  (try simp only [Act.put, eN16, List.setIfInBounds_toArray, List.set_cons_zero, List.set_cons_succ])
  refine tkE 17 eN17 rfl (by kernel_rfl) (fun K hK => ?_)
  go_simp
  skip
  (try go_wp2_with fail)
  refine hK.out _ _ ?_ (fun hHeld1 => ?_)
  · (try dsimp only); first | exact KS.out _ kX.out | exact KS.out _ (set4_below kX.out (w.heap.size + 1) (Nat.le_of_eq HS.out) _ _ _ _)
  clear hK K hHeld0
  (try simp only [Act.put, eN17, List.setIfInBounds_toArray, List.set_cons_zero, List.set_cons_succ])
  refine wpAnyH_done (by kernel_rfl) ?_ _
  have RD0 := set4_read HBX.out (.int .i64 x) (.int .i64 y) (.int .i64 p) (.int .i64 q) (Kp.refl _)
  go_wp2
  exact bodyPost_ret (v := .agg #[.int .i64 x, .int .i64 y, .int .i64 p, .int .i64 q]) (by simp [results, Tryz.f124, go_sem, RD0]) rfl ⟨rfl, K1.out.trans (set4_below kX.out (w.heap.size + 1) (Nat.le_of_eq HS.out) _ _ _ _)⟩
end Go.Proofs.YtfphmhdgnokopaaGreatDoor

namespace Go.Proofs.YtfphmhdgnokopaaGreatDoor
open Go.RowKit
set_option linter.unusedVariables false
set_option linter.unusedSimpArgs false
theorem set1_heap {w : World} {B : Nat} {t : TypeId} {c : Array Value} {fr : Nat × Nat} (hB : w.heap[B]? = some (.cells c t fr)) (o : Nat) (x : Value) : (w.setCell ⟨B, o, none⟩ x).heap[B]? = some (.cells (c.setIfInBounds o x) t fr) := by
  unfold World.setCell
  simp only
  rw [Array.getElem?_modify, if_pos rfl, hB]
  rfl
theorem set4_heap {w : World} {B : Nat} {t : TypeId} {y0 y1 y2 y3 : Value} {fr : Nat × Nat} (hB : w.heap[B]? = some (.cells #[y0, y1, y2, y3] t fr)) (x0 x1 x2 x3 : Value) :
    ((((w.setCell ⟨B, 0, none⟩ x0).setCell ⟨B, 1, none⟩ x1).setCell ⟨B, 2, none⟩ x2).setCell ⟨B, 3, none⟩ x3).heap[B]? = some (.cells #[x0, x1, x2, x3] t fr) :=
  set1_heap (set1_heap (set1_heap (set1_heap hB 0 x0) 1 x1) 2 x2) 3 x3
theorem set1_other {w : World} {B C : Nat} (h : C ≠ B) (o : Nat) (x : Value) : (w.setCell ⟨B, o, none⟩ x).heap[C]? = w.heap[C]? := by
  unfold World.setCell
  simp only
  rw [Array.getElem?_modify, if_neg (Ne.symm h)]
theorem set4_other {w : World} {B C : Nat} (h : C ≠ B) (x0 x1 x2 x3 : Value) :
    ((((w.setCell ⟨B, 0, none⟩ x0).setCell ⟨B, 1, none⟩ x1).setCell ⟨B, 2, none⟩ x2).setCell ⟨B, 3, none⟩ x3).heap[C]? = w.heap[C]? := by
  rw [set1_other h, set1_other h, set1_other h, set1_other h]
abbrev I4 := Int × Int × Int × Int
def envST (l : List LF) (k : Nat) : I4 := ((envF dLS min (l.take k)).1, (envF dGS max (l.take k)).1, (envF dLE min (l.take k)).1, (envF dGE max (l.take k)).1)
def envAN (l : List LF) (k : Nat) : Bool := anyB (l.take k)
theorem env_two (l : List LF) (d : Fam → Int) (pk : Int → Int → Int) (h : pk = min ∨ pk = max) : (envF d pk l).2 = if anyB l = true then 0 else 9 := by
  rcases Bool.eq_false_or_eq_true (anyB l) with a | a
  · rw [if_pos a]
    rcases h with rfl | rfl
    · exact (env_min d l a).1
    · exact (env_max d l a).1
  · rw [if_neg (by rw [a]; decide), env_nil d pk l a]
theorem envAN_next {l : List LF} {k : Nat} (h : k < l.length) : envAN l (k + 1) = (envAN l k || fullB (lat l k)) := by
  unfold envAN anyB
  rw [take_lat l k h, List.any_append]
  simp
theorem envST_no {l : List LF} {k : Nat} (h : k < l.length) (g : fullB (lat l k) = false) : envST l (k + 1) = envST l k := by
  unfold envST
  rw [envF_next _ _ l k h, envF_next _ _ l k h, envF_next _ _ l k h, envF_next _ _ l k h, envS_no _ _ _ _ g, envS_no _ _ _ _ g, envS_no _ _ _ _ g, envS_no _ _ _ _ g]
theorem envST_first {l : List LF} {k : Nat} (h : k < l.length) (g : fullB (lat l k) = true) (a : envAN l k = false) : envST l (k + 1) = (dLS (famR (lat l k)), dGS (famR (lat l k)), dLE (famR (lat l k)), dGE (famR (lat l k))) := by
  unfold envST
  rw [envF_next _ _ l k h, envF_next _ _ l k h, envF_next _ _ l k h, envF_next _ _ l k h, envS_yes _ _ _ _ g, envS_yes _ _ _ _ g, envS_yes _ _ _ _ g, envS_yes _ _ _ _ g]
  unfold envAN at a
  simp only [env_two (l.take k) dLS min (.inl rfl), env_two (l.take k) dGS max (.inr rfl), env_two (l.take k) dLE min (.inl rfl), env_two (l.take k) dGE max (.inr rfl), a]
  rfl
theorem envST_more {l : List LF} {k : Nat} (h : k < l.length) (g : fullB (lat l k) = true) (a : envAN l k = true) : envST l (k + 1) = (min (envST l k).1 (dLS (famR (lat l k))), max (envST l k).2.1 (dGS (famR (lat l k))), min (envST l k).2.2.1 (dLE (famR (lat l k))), max (envST l k).2.2.2 (dGE (famR (lat l k)))) := by
  unfold envST
  rw [envF_next _ _ l k h, envF_next _ _ l k h, envF_next _ _ l k h, envF_next _ _ l k h, envS_yes _ _ _ _ g, envS_yes _ _ _ _ g, envS_yes _ _ _ _ g, envS_yes _ _ _ _ g]
  unfold envAN at a
  simp only [env_two (l.take k) dLS min (.inl rfl), env_two (l.take k) dGS max (.inr rfl), env_two (l.take k) dLE min (.inl rfl), env_two (l.take k) dGE max (.inr rfl), a]
  rfl
/-- the ends of a tidied leaf that has pairs -/
theorem refEnds_any (F : Fam) (va vb : Value) (w : World) (hF : FOK F) (h0 : emptyF F = false) (ok : LeafOk w (lfOf F) va vb) :
    Calls Tryz.prog 124 #[leafV (lfOf F) va vb] w fun e w' => e = .returned (.agg #[.int .i64 (dLS F), .int .i64 (dGS F), .int .i64 (dLE F), .int .i64 (dGE F)]) ∧ Kp w w' := by
  obtain ⟨e, p1, p2⟩ := fourL_fam hF h0
  have hb := leafB_lfOf hF
  obtain ⟨ra, rb, ia, ib, na, nb⟩ := ok
  generalize lfOf F = g at *
  unfold fourL at e
  rcases Bool.eq_false_or_eq_true g.sp with hs | hs
  · rw [if_pos hs] at e
    obtain ⟨e1, e2⟩ := Prod.mk.inj e
    obtain ⟨e2, e3⟩ := Prod.mk.inj e2
    obtain ⟨e3, e4⟩ := Prod.mk.inj e3
    have hu := (leafB_span hb hs).1
    have := refEnds_span g.a g.b va vb w ra rb p1 na (p2 hs) nb
    rw [e1, e2, e3, e4] at this
    unfold leafV
    rw [hs, hu]
    exact this
  · rw [if_neg (by rw [hs]; decide)] at e
    obtain ⟨e1, e2⟩ := Prod.mk.inj e
    obtain ⟨e2, e3⟩ := Prod.mk.inj e2
    obtain ⟨e3, e4⟩ := Prod.mk.inj e3
    have hu := (leafB_units hb hs).2.2
    rw [hu] at rb
    have := refEnds_units g.u g.a va vb w ra rb p1 na
    rw [e1, e2, e3, e4] at this
    unfold leafV
    rw [hs]
    exact this
end Go.Proofs.YtfphmhdgnokopaaGreatDoor

namespace Go.Proofs.YtfphmhdgnokopaaGreatDoor
open Go.RowKit
set_option linter.unusedVariables false
set_option linter.unusedSimpArgs false
set_option maxHeartbeats 16000000 in
set_option maxRecDepth 100000 in
theorem refAll_any (v : Value) (l : List LF) (w : World) (hv : LeavesAt w v l) (hl : LsOk l) :
    Calls Tryz.prog 97 #[v] w fun e w' => e = .returned (.tuple #[.agg #[.int .i64 (envST l l.length).1, .int .i64 (envST l l.length).2.1, .int .i64 (envST l l.length).2.2.1, .int .i64 (envST l l.length).2.2.2], .bool (envAN l l.length)]) ∧ Kp w w' := by
  have hm := hv.len
  unfold maxLen at hm
  obtain ⟨ad, cp, rfl⟩ := hv.slice
  have HV := Lib.hid hv
  have HL := Lib.hid hl
  have A0 := Lib.hid (show envAN l 0 = false from rfl)
  have S0 := Lib.hid (show envST l 0 = (0, 0, 0, 0) from rfl)
  have AN := Lib.hid (fun k (h : k < l.length) => envAN_next h)
  have SN := Lib.hid (fun k (h : k < l.length) g => envST_no h g)
  have SF := Lib.hid (fun k (h : k < l.length) g a => envST_first h g a)
  have SM := Lib.hid (fun k (h : k < l.length) g a => envST_more h g a)
  clear hv hl
  generalize envAN l = AA at *
  generalize envST l = SS at *
  obtain ⟨W0, hW⟩ : ∃ x, x = (w.alloc (.cells #[.int .i64 0, .int .i64 0, .int .i64 0, .int .i64 0] 84)).alloc (.cells #[.int .i64 0, .int .i64 0, .int .i64 0, .int .i64 0] 84) := ⟨_, rfl⟩
  have k0 : Kp w W0 := by rw [hW]; exact (Kp.alloc _ _).trans (Kp.alloc _ _)
  have h2 : W0.heap[w.heap.size]? = some (.cells #[.int .i64 0, .int .i64 0, .int .i64 0, .int .i64 0] 84 (0, 0)) := by rw [hW]; exact heap_block (Kp.alloc _ _) (heap_at _ _ _ rfl)
  have h4 : W0.heap[w.heap.size + 1]? = some (.cells #[.int .i64 0, .int .i64 0, .int .i64 0, .int .i64 0] 84 (0, 0)) := by rw [hW]; exact heap_at _ _ _ (by simp)
  have K0 := Lib.hid k0
  have H2 := Lib.hid h2
  have H4 := Lib.hid h4
  have HW := Lib.hid hW
  clear hW k0 h2 h4
  go_enter Tryz.func97, Tryz.ntmps97
  go_wp2_with fail
  rw [← HW.out]
  go_loopw [5, 6] (fun q i wr => ∃ (k : Nat) (x0 x1 x2 x3 : Int), k ≤ l.length ∧ i = .int .i64 k ∧ q = .bool (AA k) ∧ Hid (SS k = (x0, x1, x2, x3)) ∧ Hid (wr.heap[w.heap.size]? = some (.cells #[.int .i64 0, .int .i64 0, .int .i64 0, .int .i64 0] 84 (0, 0))) ∧ Hid (wr.heap[w.heap.size + 1]? = some (.cells #[.int .i64 x0, .int .i64 x1, .int .i64 x2, .int .i64 x3] 84 (0, 0))) ∧ Hid (Kp w wr)) (fun _ i _ => l.length - (intOf i).toNat)
  case atStart => exact ⟨0, 0, 0, 0, 0, Nat.zero_le _, rfl, by rw [A0.out], S0, H2, H4, K0⟩
  case round =>
    obtain ⟨k, x0, x1, x2, x3, hk, rfl, rfl, HS, G2, G4, J⟩ := hrel
    by_cases hlt : k < l.length
    · rcases HV.out.kp J.out with ⟨_, _, _, e⟩ | ⟨b0, off, cap, ev, hc, hmx, hx⟩
      · rw [e] at hlt; simp at hlt
      cases ev
      obtain ⟨va, vb, d0, d1, d2, d3, ra, rb⟩ := hx k hlt
      have LOK := HL.out _ (lat_mem hlt)
      obtain ⟨f, hf⟩ : ∃ f, lat l k = f := ⟨_, rfl⟩
      rw [hf] at d0 d1 ra rb
      (try rw [hf] at LOK)
      obtain ⟨sp, u, a, b⟩ := f
      simp only at d0 d1 ra rb
      (try simp only at LOK)
      obtain ⟨aa, ca, rfl⟩ := ra.slice
      obtain ⟨ab, cb, rfl⟩ := rb.slice
      have HF := Lib.hid hf
      have z1 : (k : Int) < (l.length : Int) := by omega
      have z2 : (0 : Int) ≤ (k : Int) := by omega
      clear hx hc hmx hf
      have ok : LeafOk wr ⟨sp, u, a, b⟩ _ _ := ⟨ra, rb, LOK.1, LOK.2.1, LOK.2.2.1, LOK.2.2.2⟩
      have C := Lib.hid (fun w1 (kk : Kp wr w1) => refTidy_any ⟨sp, u, a, b⟩ _ _ w1 (ok.kp kk))
      have fk := Lib.hid (famR_ok ⟨sp, u, a, b⟩)
      have an := AN.out k hlt
      have sn := SN.out k hlt
      have sf := SF.out k hlt
      have sm := SM.out k hlt
      rw [HF.out] at an sn sf sm
      rw [HS.out] at sn sm
      unfold fullB at an sn sf sm
      simp only [leafV] at C
      generalize famR ⟨sp, u, a, b⟩ = F at *
      have ll := lfOf_len F
      have NA := Lib.hid an
      have NS := Lib.hid sn
      have NF := Lib.hid sf
      have NM := Lib.hid sm
      clear ra rb ok an sn sf sm
      have CE := Lib.hid (fun va vb w1 h0 (ok : LeafOk w1 (lfOf F) va vb) => refEnds_any F va vb w1 fk.out h0 ok)
      have hls : (lfOf F).a.length ≤ 1000 ∨ True := .inr trivial
      generalize lfOf F = g at *
      obtain ⟨gsp, gu, ga, gb⟩ := g
      simp only at ll
      have KR := Lib.hid (Kp.refl wr)
      go_wp2_with fail
      refine (C.out _ (by first | with_reducible exact KR.out | with_reducible exact KR.out.trans (Kp.alloc _ _) | with_reducible exact (KR.out.trans (Kp.alloc _ _)).trans (Kp.alloc _ _) | with_reducible exact ((KR.out.trans (Kp.alloc _ _)).trans (Kp.alloc _ _)).trans (Kp.alloc _ _) | with_reducible exact KR.out.trans (Kp.drew _) | with_reducible exact KR.out.trans (Kp.drewN _ _))).mono ?_
      rintro e w1 ⟨va, vb, rfl, okg, kk⟩
      obtain ⟨aa', ca', rfl⟩ := okg.a.slice
      obtain ⟨ab', cb', rfl⟩ := okg.b.slice
      have kz : Kp wr w1 := (show Kp wr _ from (by first | with_reducible exact KR.out | with_reducible exact KR.out.trans (Kp.alloc _ _) | with_reducible exact (KR.out.trans (Kp.alloc _ _)).trans (Kp.alloc _ _) | with_reducible exact ((KR.out.trans (Kp.alloc _ _)).trans (Kp.alloc _ _)).trans (Kp.alloc _ _) | with_reducible exact KR.out.trans (Kp.drew _) | with_reducible exact KR.out.trans (Kp.drewN _ _))).trans kk
      have K1 := Lib.hid kz
      have G21 := Lib.hid (heap_block kz G2.out)
      have G41 := Lib.hid (heap_block kz G4.out)
      have J1 := Lib.hid (J.out.trans kz)
      have OKG := Lib.hid okg
      have s4 := (Array.getElem?_eq_some_iff.1 G41.out).1
      have zz : ¬ w.heap.size + 1 = w1.heap.size := by omega
      simp only [leafV]
      clear kz kk okg d0 d1 d2 d3 C
      cases hE : emptyF F with
      | true =>
        have q0 : ((ga.length : Int) == 0) = true := by
          rw [hE] at ll
          rw [of_decide_eq_true ll.symm]
          rfl
        have a1 := NA.out
        have s1 := NS.out (by rw [hE]; rfl)
        rw [hE] at a1
        have a2 := Lib.hid (show AA (k + 1) = AA k by rw [a1]; simp)
        have s2 := Lib.hid s1
        clear a1 s1 hE ll
        have KA1 := Kp.alloc w1 (.cells #[.bool gsp, .int .i64 gu, .slice aa' ga.length ca', .slice ab' gb.length cb'] 24)
        have E2 := Lib.hid (heap_block KA1 G21.out)
        have E4 := Lib.hid (heap_block KA1 G41.out)
        have EJ := Lib.hid (J1.out.trans KA1)
        clear KA1
        go_wp2
        go_roundw
        case rel => exact ⟨k + 1, _, _, _, _, by omega, by go_num, by rw [a2.out], s2, E2, E4, EJ⟩
        case measure => simp [intOf]; omega
      | false =>
        have q0 : ((ga.length : Int) == 0) = false := by
          rw [hE] at ll
          have := of_decide_eq_false ll.symm
          exact beq_eq_false_iff_ne.2 (by omega)
        have HE := Lib.hid hE
        have a1 := NA.out
        rw [hE] at a1
        have a2 := Lib.hid (show AA (k + 1) = true by rw [a1]; simp)
        have n1 := NF.out (by rw [hE]; rfl)
        have n2 := NM.out (by rw [hE]; rfl)
        have M1 := Lib.hid n1
        have M2 := Lib.hid n2
        simp only [leafV] at CE
        obtain ⟨V, hV⟩ : ∃ x, x = w1.alloc (.cells #[.bool gsp, .int .i64 gu, .slice aa' ga.length ca', .slice ab' gb.length cb'] 24) := ⟨_, rfl⟩
        have ka : Kp w1 V := by rw [hV]; exact Kp.alloc _ _
        have KV := Lib.hid ka
        have HV2 := Lib.hid hV
        have OKV := Lib.hid (OKG.out.kp ka)
        have ZV := Lib.hid (Kp.refl V)
        clear hV ka a1 n1 n2 hE ll
        go_wp2_with fail
        rw [← HV2.out]
        refine (CE.out _ _ _ HE.out OKV.out).mono ?_
        rintro e w2 ⟨rfl, kk⟩
        have kz := KV.out.trans kk
        have G22 := Lib.hid (heap_block kz G21.out)
        have G42 := Lib.hid (heap_block kz G41.out)
        have J2 := Lib.hid (J1.out.trans kz)
        clear kk kz
        generalize dLS F = e0 at *
        generalize dGS F = e1' at *
        generalize dLE F = e2' at *
        generalize dGE F = e3 at *
        have rc0 : w2.cell? ⟨w.heap.size + 1, 0, none⟩ = some (.int .i64 x0) := by simp [World.cell?, G42.out]
        have rf0 : w2.frozen? ⟨w.heap.size + 1, 0, none⟩ = false := by simp [World.frozen?, G42.out]
        have rc1 : w2.cell? ⟨w.heap.size + 1, 1, none⟩ = some (.int .i64 x1) := by simp [World.cell?, G42.out]
        have rf1 : w2.frozen? ⟨w.heap.size + 1, 1, none⟩ = false := by simp [World.frozen?, G42.out]
        have rc2 : w2.cell? ⟨w.heap.size + 1, 2, none⟩ = some (.int .i64 x2) := by simp [World.cell?, G42.out]
        have rf2 : w2.frozen? ⟨w.heap.size + 1, 2, none⟩ = false := by simp [World.frozen?, G42.out]
        have rc3 : w2.cell? ⟨w.heap.size + 1, 3, none⟩ = some (.int .i64 x3) := by simp [World.cell?, G42.out]
        have rf3 : w2.frozen? ⟨w.heap.size + 1, 3, none⟩ = false := by simp [World.frozen?, G42.out]
        have zB := (Array.getElem?_eq_some_iff.1 G42.out).1
        have zN : ¬ w.heap.size + 1 = w2.heap.size := by omega
        have zM : ¬ w2.heap.size = w.heap.size + 1 := by omega
        have zO : w.heap.size ≠ w.heap.size + 1 := by omega
        cases hA : AA k with
        | false =>
          have M3 := Lib.hid (M1.out hA)
          clear hA M1 M2
          have hb4 := heap_block (Kp.alloc _ (.cells #[.int .i64 e0, .int .i64 e1', .int .i64 e2', .int .i64 e3] 84)) (set4_heap (set4_heap G42.out (.int .i64 e0) (.int .i64 e1') (.int .i64 e2') (.int .i64 e3)) (.int .i64 e0) (.int .i64 e1') (.int .i64 e2') (.int .i64 e3))
          have hb2 := heap_block (Kp.alloc _ (.cells #[.int .i64 e0, .int .i64 e1', .int .i64 e2', .int .i64 e3] 84)) (((set4_other zO (.int .i64 e0) (.int .i64 e1') (.int .i64 e2') (.int .i64 e3)).trans (set4_other zO (.int .i64 e0) (.int .i64 e1') (.int .i64 e2') (.int .i64 e3))).trans G22.out)
          have B4 := Lib.hid hb4
          have B2 := Lib.hid hb2
          have JJ := Lib.hid ((set4_below (set4_below J2.out (w.heap.size + 1) (by omega) (.int .i64 e0) (.int .i64 e1') (.int .i64 e2') (.int .i64 e3)) (w.heap.size + 1) (by omega) (.int .i64 e0) (.int .i64 e1') (.int .i64 e2') (.int .i64 e3)).trans (Kp.alloc _ (.cells #[.int .i64 e0, .int .i64 e1', .int .i64 e2', .int .i64 e3] 84)))
          clear hb4 hb2
          go_wp2
          go_roundw
          case rel => exact ⟨k + 1, _, _, _, _, by omega, by go_num, by rw [a2.out], M3, B2, B4, JJ⟩
          case measure => simp [intOf]; omega
        | true =>
          have M3 := Lib.hid (show SS (k + 1) = (min x0 e0, max x1 e1', min x2 e2', max x3 e3) from M2.out hA)
          clear hA M1 M2
          have hb4 := heap_block (Kp.alloc _ (.cells #[.int .i64 e0, .int .i64 e1', .int .i64 e2', .int .i64 e3] 84)) (set4_heap G42.out (.int .i64 (min x0 e0)) (.int .i64 (max x1 e1')) (.int .i64 (min x2 e2')) (.int .i64 (max x3 e3)))
          have hb2 := heap_block (Kp.alloc _ (.cells #[.int .i64 e0, .int .i64 e1', .int .i64 e2', .int .i64 e3] 84)) ((set4_other zO (.int .i64 (min x0 e0)) (.int .i64 (max x1 e1')) (.int .i64 (min x2 e2')) (.int .i64 (max x3 e3))).trans G22.out)
          have B4 := Lib.hid hb4
          have B2 := Lib.hid hb2
          have JJ := Lib.hid ((set4_below J2.out (w.heap.size + 1) (by omega) (.int .i64 (min x0 e0)) (.int .i64 (max x1 e1')) (.int .i64 (min x2 e2')) (.int .i64 (max x3 e3))).trans (Kp.alloc _ (.cells #[.int .i64 e0, .int .i64 e1', .int .i64 e2', .int .i64 e3] 84)))
          clear hb4 hb2
          go_wp2
          go_roundw
          case rel => exact ⟨k + 1, _, _, _, _, by omega, by go_num, by rw [a2.out], M3, B2, B4, JJ⟩
          case measure => simp [intOf]; omega
    · obtain rfl : k = l.length := by omega
      have rc0 : wr.cell? ⟨w.heap.size + 1, 0, none⟩ = some (.int .i64 x0) := by simp [World.cell?, G4.out]
      have rf0 : wr.frozen? ⟨w.heap.size + 1, 0, none⟩ = false := by simp [World.frozen?, G4.out]
      have rc1 : wr.cell? ⟨w.heap.size + 1, 1, none⟩ = some (.int .i64 x1) := by simp [World.cell?, G4.out]
      have rf1 : wr.frozen? ⟨w.heap.size + 1, 1, none⟩ = false := by simp [World.frozen?, G4.out]
      have rc2 : wr.cell? ⟨w.heap.size + 1, 2, none⟩ = some (.int .i64 x2) := by simp [World.cell?, G4.out]
      have rf2 : wr.frozen? ⟨w.heap.size + 1, 2, none⟩ = false := by simp [World.frozen?, G4.out]
      have rc3 : wr.cell? ⟨w.heap.size + 1, 3, none⟩ = some (.int .i64 x3) := by simp [World.cell?, G4.out]
      have rf3 : wr.frozen? ⟨w.heap.size + 1, 3, none⟩ = false := by simp [World.frozen?, G4.out]
      have sc0 : wr.cell? ⟨w.heap.size, 0, none⟩ = some (.int .i64 0) := by simp [World.cell?, G2.out]
      have sf0 : wr.frozen? ⟨w.heap.size, 0, none⟩ = false := by simp [World.frozen?, G2.out]
      have sc1 : wr.cell? ⟨w.heap.size, 1, none⟩ = some (.int .i64 0) := by simp [World.cell?, G2.out]
      have sf1 : wr.frozen? ⟨w.heap.size, 1, none⟩ = false := by simp [World.frozen?, G2.out]
      have sc2 : wr.cell? ⟨w.heap.size, 2, none⟩ = some (.int .i64 0) := by simp [World.cell?, G2.out]
      have sf2 : wr.frozen? ⟨w.heap.size, 2, none⟩ = false := by simp [World.frozen?, G2.out]
      have sc3 : wr.cell? ⟨w.heap.size, 3, none⟩ = some (.int .i64 0) := by simp [World.cell?, G2.out]
      have sf3 : wr.frozen? ⟨w.heap.size, 3, none⟩ = false := by simp [World.frozen?, G2.out]
      have zN : ¬ w.heap.size + 1 = w.heap.size := by omega
      have zO : ¬ w.heap.size = w.heap.size + 1 := by omega
      have RD := set4_read G2.out (.int .i64 x0) (.int .i64 x1) (.int .i64 x2) (.int .i64 x3) (Kp.refl _)
      go_wp2
      exact bodyPost_ret (v := .tuple #[.agg #[.int .i64 x0, .int .i64 x1, .int .i64 x2, .int .i64 x3], .bool (AA l.length)]) (by simp [results, Tryz.f97, go_sem, RD]) rfl ⟨by rw [HS.out], set4_below J.out w.heap.size (Nat.le_refl _) _ _ _ _⟩
end Go.Proofs.YtfphmhdgnokopaaGreatDoor
