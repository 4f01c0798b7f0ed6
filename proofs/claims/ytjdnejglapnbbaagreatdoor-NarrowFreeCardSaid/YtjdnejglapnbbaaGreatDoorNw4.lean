/-
  Layer 22: the walk of NarrowFree.
-/
import Derived.Test.YtjdnejglapnbbaaGreatDoorNwN
import Derived.LoopTactic
namespace Go.Proofs.YtjdnejglapnbbaaGreatDoor
open Go.RowKit
set_option linter.unusedVariables false
set_option linter.unusedSimpArgs false
def noneN (l : List LF) (k : Nat) : Bool := (l.take k).all fun f => emptyF (famR f)
theorem noneN_next {l : List LF} {k : Nat} (h : k < l.length) : noneN l (k + 1) = (noneN l k && emptyF (famR (lat l k))) := by
  unfold noneN
  rw [take_lat l k h, List.all_append]
  simp
theorem noneN_all (l : List LF) : noneN l l.length = true ↔ ∀ S T, ¬ hasL l S T = true := by
  unfold noneN
  rw [List.take_length, List.all_eq_true]
  constructor
  · intro h S T q
    obtain ⟨f, hf, g⟩ := (hasL_iff _ _ _).1 q
    rw [(empty_iff (famR_ok f)).1 (h f hf) S T] at g
    cases g
  · intro h f hf
    refine (empty_iff (famR_ok f)).2 fun S T => ?_
    rcases Bool.eq_false_or_eq_true (hasF (famR f) S T) with q | q
    · exact absurd ((hasL_iff _ _ _).2 ⟨f, hf, q⟩) (h S T)
    · exact q
theorem free_in {S T : Int} (h : S ≤ T) (a : 0 ≤ S) (b : T ≤ 3652424) : inL [spnF 0 3652424] S T :=
  ⟨h, _, List.mem_singleton.2 rfl, by
    refine ⟨0, 3652424, ?_, a, b⟩
    decide +kernel⟩
theorem free_left (l : List LF) (S T : Int) : leftP l [spnF 0 3652424] S T ↔ hasL l S T = true :=
  ⟨fun h => h.1, fun h => ⟨h, free_in (hasL_st h).1 (hasL_st h).2.1 (hasL_st h).2.2⟩⟩
theorem free_told {l L : List LF} {n : Int} (h : NarP l [spnF 0 3652424] n L) (h8 : n ≠ 8) (S T : Int) : hasL L S T = hasL l S T ∧ ((n = 0 ∧ noneN l l.length = false) ∨ (n = 9 ∧ noneN l l.length = true)) := by
  obtain ⟨a1, _, a2, a3⟩ := nar_has h h8
  refine ⟨boolN_iff ((a2 S T).trans (free_left l S T)) Iff.rfl, ?_⟩
  have e : n = 9 ↔ noneN l l.length = true := by
    rw [a3, noneN_all]
    exact ⟨fun h S T q => h S T ((free_left l S T).2 q), fun h S T q => h S T ((free_left l S T).1 q)⟩
  rcases a1 with g | g
  · refine .inl ⟨g, ?_⟩
    rcases Bool.eq_false_or_eq_true (noneN l l.length) with q | q
    · have := e.2 q; omega
    · exact q
  · exact .inr ⟨g, e.1 g⟩
set_option maxHeartbeats 16000000 in
set_option maxRecDepth 100000 in
theorem nfre_f1 (vl : Value) (l : List LF) (pS pE : Int) (w : World) (rl : LeavesAt w vl l) (gl : ∀ f ∈ l, LeafG f) (hp1 : -9223372036854775808 ≤ pS) (hp2 : pS ≤ 9223372036854775807) (hp3 : -9223372036854775808 ≤ pE) (hp4 : pE ≤ 9223372036854775807) (T : Tabs w) (hf : few22 l = false) :
    Calls Tryz.prog 8 #[vl, .agg #[.int .i64 pS, .int .i64 pE]] w fun e w' => e = .returned (.bool true) ∧ Kp w w' := by
  have RFL := Lib.hid (fun w1 (kk : Kp w w1) => few22_any vl l w1 (rl.kp kk) gl)
  rw [hf] at RFL
  obtain ⟨adl, cal, rfl⟩ := rl.slice
  obtain ⟨W0, hW⟩ : ∃ W0, W0 = w.alloc (.cells #[.int .i64 pS, .int .i64 pE] 35) := ⟨_, rfl⟩
  have K00 := Lib.hid (show Kp w W0 by rw [hW]; exact Kp.alloc _ _)
  have HB := Lib.hid (fun w1 (k : Kp W0 w1) => show w1.cell? ⟨w.heap.size, 0, none⟩ = some (.int .i64 pS) ∧ w1.cell? ⟨w.heap.size, 1, none⟩ = some (.int .i64 pE) from ⟨cell_up k (show W0.cell? ⟨w.heap.size, 0, none⟩ = some (.int .i64 pS) by rw [hW]; simp), cell_up k (show W0.cell? ⟨w.heap.size, 1, none⟩ = some (.int .i64 pE) by rw [hW]; simp)⟩)
  obtain ⟨c0, c1⟩ := HB.out W0 (Kp.refl _)
  have K0 := Lib.hid (Kp.refl W0)
  have HW := Lib.hid hW
  clear hW
  have AW := Lib.hid (fun w1 (kk : Kp W0 w1) => awake22 w1 (T.kp (K00.out.trans kk)))
  have F1 := Lib.hid (fun w1 (kk : Kp W0 w1) => RFL.out w1 (K00.out.trans kk))
  clear rl gl T
  go_enter Tryz.func8, Tryz.ntmps8
  go_wp2_with fail
  rw [← HW.out]
  refine (AW.out _ (by first | with_reducible exact K0.out | with_reducible exact K0.out.trans (Kp.alloc _ _) | with_reducible exact (K0.out.trans (Kp.alloc _ _)).trans (Kp.alloc _ _) | with_reducible exact ((K0.out.trans (Kp.alloc _ _)).trans (Kp.alloc _ _)).trans (Kp.alloc _ _) | with_reducible exact K0.out.trans (Kp.drew _) | with_reducible exact K0.out.trans (Kp.drewN _ _))).mono ?_
  rintro e w1 ⟨rfl, kk⟩
  have K1 := Lib.hid ((show Kp W0 _ from (by first | with_reducible exact K0.out | with_reducible exact K0.out.trans (Kp.alloc _ _) | with_reducible exact (K0.out.trans (Kp.alloc _ _)).trans (Kp.alloc _ _) | with_reducible exact ((K0.out.trans (Kp.alloc _ _)).trans (Kp.alloc _ _)).trans (Kp.alloc _ _) | with_reducible exact K0.out.trans (Kp.drew _) | with_reducible exact K0.out.trans (Kp.drewN _ _))).trans kk)
  clear kk
  clear c0 c1
  obtain ⟨c0, c1⟩ := HB.out w1 K1.out
  go_wp2_with fail
  refine (F1.out _ (by first | with_reducible exact K1.out | with_reducible exact K1.out.trans (Kp.alloc _ _) | with_reducible exact (K1.out.trans (Kp.alloc _ _)).trans (Kp.alloc _ _) | with_reducible exact ((K1.out.trans (Kp.alloc _ _)).trans (Kp.alloc _ _)).trans (Kp.alloc _ _) | with_reducible exact K1.out.trans (Kp.drew _) | with_reducible exact K1.out.trans (Kp.drewN _ _))).mono ?_
  rintro e w2 ⟨rfl, kk⟩
  have K2 := Lib.hid ((show Kp W0 _ from (by first | with_reducible exact K1.out | with_reducible exact K1.out.trans (Kp.alloc _ _) | with_reducible exact (K1.out.trans (Kp.alloc _ _)).trans (Kp.alloc _ _) | with_reducible exact ((K1.out.trans (Kp.alloc _ _)).trans (Kp.alloc _ _)).trans (Kp.alloc _ _) | with_reducible exact K1.out.trans (Kp.drew _) | with_reducible exact K1.out.trans (Kp.drewN _ _))).trans kk)
  clear kk
  clear c0 c1
  obtain ⟨c0, c1⟩ := HB.out w2 K2.out
  go_wp2
  go_ret
  exact ⟨rfl, K00.out.trans K2.out⟩
abbrev nwFr0 : Oper := { dst := some 50, op := Go.Op.move (Go.Operand.tmp 5), type := 4, pos := "law.go:136", after := #[], guard := none }
abbrev nwFr1 : Oper := { dst := some 51, op := Go.Op.move (Go.Operand.tmp 50), type := 4, pos := "law.go:136", after := #[{ on := 0, ground := Go.Ground.data }], guard := none }
abbrev nwFr2 : Oper := { dst := some 52, op := Go.Op.move (Go.Operand.tmp 8), type := 25, pos := "law.go:136", after := #[{ on := 1, ground := Go.Ground.guard }], guard := some (1, true) }
abbrev nwFr3 : Oper := { dst := some 53, op := Go.Op.binOp Go.BinOp.eql 25 (Go.Operand.tmp 52) (Go.Operand.const (Go.Value.int Go.IntKind.i64 9)) 25, type := 4, pos := "law.go:136", after := #[{ on := 2, ground := Go.Ground.data }, { on := 1, ground := Go.Ground.guard }], guard := some (1, true) }
abbrev nwFr4 : Oper := { dst := some 54, op := Go.Op.move (Go.Operand.tmp 9), type := 4, pos := "law.go:136", after := #[{ on := 1, ground := Go.Ground.guard }], guard := some (1, true) }
abbrev nwFr5 : Oper := { dst := some 55, op := Go.Op.binOp Go.BinOp.eql 4 (Go.Operand.tmp 53) (Go.Operand.tmp 54) 4, type := 4, pos := "law.go:136", after := #[{ on := 3, ground := Go.Ground.data }, { on := 4, ground := Go.Ground.data }, { on := 1, ground := Go.Ground.guard }], guard := some (1, true) }
abbrev nwFr6 : Oper := { dst := some 56, op := Go.Op.pick (Go.Operand.tmp 51) (Go.Operand.tmp 55) (Go.Operand.const (Go.Value.bool false)), type := 4, pos := "law.go:136", after := #[{ on := 1, ground := Go.Ground.data }, { on := 5, ground := Go.Ground.data }], guard := none }
abbrev nwFr7 : Oper := { dst := some 57, op := Go.Op.move (Go.Operand.tmp 56), type := 4, pos := "law.go:136", after := #[{ on := 6, ground := Go.Ground.data }, { on := 1, ground := Go.Ground.chain }], guard := none }
abbrev nwFr8 : Oper := { dst := some 58, op := Go.Op.move (Go.Operand.tmp 7), type := 22, pos := "law.go:136", after := #[{ on := 7, ground := Go.Ground.guard }], guard := some (7, true) }
abbrev nwFr9 : Oper := { dst := some 59, op := Go.Op.load 35 (Go.Operand.tmp 3), type := 35, pos := "law.go:136", after := #[{ on := 7, ground := Go.Ground.guard }], guard := some (7, true) }
abbrev nwFr10 : Oper := { dst := some 60, op := Go.Op.call { callee := Go.Callee.value (Go.Operand.func 32), args := #[Go.Operand.tmp 58, Go.Operand.tmp 59], argTypes := #[22, 35] }, type := 4, pos := "law.go:136", after := #[{ on := 8, ground := Go.Ground.data }, { on := 9, ground := Go.Ground.data }, { on := 7, ground := Go.Ground.chain }, { on := 7, ground := Go.Ground.guard }], guard := some (7, true) }
abbrev nwFr11 : Oper := { dst := some 61, op := Go.Op.move (Go.Operand.tmp 0), type := 22, pos := "law.go:136", after := #[{ on := 7, ground := Go.Ground.guard }], guard := some (7, true) }
abbrev nwFr12 : Oper := { dst := some 62, op := Go.Op.load 35 (Go.Operand.tmp 3), type := 35, pos := "law.go:136", after := #[{ on := 7, ground := Go.Ground.guard }], guard := some (7, true) }
abbrev nwFr13 : Oper := { dst := some 63, op := Go.Op.call { callee := Go.Callee.value (Go.Operand.func 32), args := #[Go.Operand.tmp 61, Go.Operand.tmp 62], argTypes := #[22, 35] }, type := 4, pos := "law.go:136", after := #[{ on := 11, ground := Go.Ground.data }, { on := 12, ground := Go.Ground.data }, { on := 10, ground := Go.Ground.chain }, { on := 7, ground := Go.Ground.guard }], guard := some (7, true) }
abbrev nwFr14 : Oper := { dst := some 64, op := Go.Op.binOp Go.BinOp.eql 4 (Go.Operand.tmp 60) (Go.Operand.tmp 63) 4, type := 4, pos := "law.go:136", after := #[{ on := 10, ground := Go.Ground.data }, { on := 13, ground := Go.Ground.data }, { on := 7, ground := Go.Ground.guard }], guard := some (7, true) }
abbrev nwFr15 : Oper := { dst := some 65, op := Go.Op.pick (Go.Operand.tmp 57) (Go.Operand.tmp 64) (Go.Operand.const (Go.Value.bool false)), type := 4, pos := "law.go:136", after := #[{ on := 7, ground := Go.Ground.data }, { on := 14, ground := Go.Ground.data }], guard := none }
abbrev nwFr16 : Oper := { dst := some 4, op := Go.Op.assign (Go.Operand.tmp 65), type := 4, pos := "law.go:136", after := #[{ on := 15, ground := Go.Ground.data }, { on := 13, ground := Go.Ground.chain }, { on := 0, ground := Go.Ground.phase }, { on := 1, ground := Go.Ground.phase }, { on := 2, ground := Go.Ground.phase }, { on := 3, ground := Go.Ground.phase }, { on := 4, ground := Go.Ground.phase }, { on := 5, ground := Go.Ground.phase }, { on := 6, ground := Go.Ground.phase }, { on := 7, ground := Go.Ground.phase }, { on := 8, ground := Go.Ground.phase }, { on := 9, ground := Go.Ground.phase }, { on := 10, ground := Go.Ground.phase }, { on := 11, ground := Go.Ground.phase }, { on := 12, ground := Go.Ground.phase }, { on := 13, ground := Go.Ground.phase }, { on := 14, ground := Go.Ground.phase }, { on := 15, ground := Go.Ground.phase }], guard := none }
set_option maxHeartbeats 16000000 in
set_option maxRecDepth 100000 in
theorem nfre_main (vl : Value) (l : List LF) (pS pE : Int) (w : World) (rl : LeavesAt w vl l) (gl : ∀ f ∈ l, LeafG f) (hp1 : -9223372036854775808 ≤ pS) (hp2 : pS ≤ 9223372036854775807) (hp3 : -9223372036854775808 ≤ pE) (hp4 : pE ≤ 9223372036854775807) (T : Tabs w) (hf : few22 l = true) :
    Calls Tryz.prog 8 #[vl, .agg #[.int .i64 pS, .int .i64 pE]] w fun e w' => e = .returned (.bool true) ∧ Kp w w' := by
  have RFL := Lib.hid (fun w1 (kk : Kp w w1) => few22_any vl l w1 (rl.kp kk) gl)
  rw [hf] at RFL
  obtain ⟨ok, sm, _, _, _⟩ := few22_told hf gl
  have RN := Lib.hid (fun v w1 (kk : Kp w w1) (h : LeavesAt w1 v [spnF 0 3652424]) => nwN_any vl v l [spnF 0 3652424] w1 (rl.kp kk) h ok (sp_i64 (by decide) (by decide) (by decide) (by decide)) (T.kp kk) sm (by decide +kernel) (by decide +kernel))
  have RHL := Lib.hid (fun w1 (kk : Kp w w1) => denHas_any vl l pS pE w1 (rl.kp kk) ok (T.kp kk) hp1 hp2 hp3 hp4)
  have RHX := Lib.hid (fun v L w1 (h : LeavesAt w1 v L) (ho : LsOk L) (kk : Kp w w1) => denHas_any v L pS pE w1 h ho (T.kp kk) hp1 hp2 hp3 hp4)
  have NN := Lib.hid (fun k (h : k < l.length) => noneN_next h)
  have N0 := Lib.hid (show noneN l 0 = true from rfl)
  have HL := Lib.hid ok
  have HV := Lib.hid rl
  have TT := Lib.hid T
  obtain ⟨adl, cal, rfl⟩ := rl.slice
  obtain ⟨W0, hW⟩ : ∃ W0, W0 = w.alloc (.cells #[.int .i64 pS, .int .i64 pE] 35) := ⟨_, rfl⟩
  have K00 := Lib.hid (show Kp w W0 by rw [hW]; exact Kp.alloc _ _)
  have HB := Lib.hid (fun w1 (k : Kp W0 w1) => show w1.cell? ⟨w.heap.size, 0, none⟩ = some (.int .i64 pS) ∧ w1.cell? ⟨w.heap.size, 1, none⟩ = some (.int .i64 pE) from ⟨cell_up k (show W0.cell? ⟨w.heap.size, 0, none⟩ = some (.int .i64 pS) by rw [hW]; simp), cell_up k (show W0.cell? ⟨w.heap.size, 1, none⟩ = some (.int .i64 pE) by rw [hW]; simp)⟩)
  obtain ⟨c0, c1⟩ := HB.out W0 (Kp.refl _)
  have K0 := Lib.hid (Kp.refl W0)
  have HW := Lib.hid hW
  clear hW
  have AW := Lib.hid (fun w1 (kk : Kp W0 w1) => awake22 w1 (T.kp (K00.out.trans kk)))
  have F1 := Lib.hid (fun w1 (kk : Kp W0 w1) => RFL.out w1 (K00.out.trans kk))
  have N1 := Lib.hid (fun v w1 (kk : Kp W0 w1) h => RN.out v w1 (K00.out.trans kk) h)
  have HL1 := Lib.hid (fun w1 (kk : Kp W0 w1) => RHL.out w1 (K00.out.trans kk))
  have HX1 := Lib.hid (fun v L w1 h ho (kk : Kp W0 w1) => RHX.out v L w1 h ho (K00.out.trans kk))
  clear rl gl T RN RHL RHX RFL sm ok hf
  go_enter Tryz.func8, Tryz.ntmps8
  go_wp2_with fail
  rw [← HW.out]
  refine (AW.out _ (by first | with_reducible exact K0.out | with_reducible exact K0.out.trans (Kp.alloc _ _) | with_reducible exact (K0.out.trans (Kp.alloc _ _)).trans (Kp.alloc _ _) | with_reducible exact ((K0.out.trans (Kp.alloc _ _)).trans (Kp.alloc _ _)).trans (Kp.alloc _ _) | with_reducible exact K0.out.trans (Kp.drew _) | with_reducible exact K0.out.trans (Kp.drewN _ _))).mono ?_
  rintro e w1 ⟨rfl, kk⟩
  have K1 := Lib.hid ((show Kp W0 _ from (by first | with_reducible exact K0.out | with_reducible exact K0.out.trans (Kp.alloc _ _) | with_reducible exact (K0.out.trans (Kp.alloc _ _)).trans (Kp.alloc _ _) | with_reducible exact ((K0.out.trans (Kp.alloc _ _)).trans (Kp.alloc _ _)).trans (Kp.alloc _ _) | with_reducible exact K0.out.trans (Kp.drew _) | with_reducible exact K0.out.trans (Kp.drewN _ _))).trans kk)
  clear kk
  clear c0 c1
  obtain ⟨c0, c1⟩ := HB.out w1 K1.out
  go_wp2_with fail
  refine (F1.out _ (by first | with_reducible exact K1.out | with_reducible exact K1.out.trans (Kp.alloc _ _) | with_reducible exact (K1.out.trans (Kp.alloc _ _)).trans (Kp.alloc _ _) | with_reducible exact ((K1.out.trans (Kp.alloc _ _)).trans (Kp.alloc _ _)).trans (Kp.alloc _ _) | with_reducible exact K1.out.trans (Kp.drew _) | with_reducible exact K1.out.trans (Kp.drewN _ _))).mono ?_
  rintro e w2 ⟨rfl, kk⟩
  have K2 := Lib.hid ((show Kp W0 _ from (by first | with_reducible exact K1.out | with_reducible exact K1.out.trans (Kp.alloc _ _) | with_reducible exact (K1.out.trans (Kp.alloc _ _)).trans (Kp.alloc _ _) | with_reducible exact ((K1.out.trans (Kp.alloc _ _)).trans (Kp.alloc _ _)).trans (Kp.alloc _ _) | with_reducible exact K1.out.trans (Kp.drew _) | with_reducible exact K1.out.trans (Kp.drewN _ _))).trans kk)
  clear kk
  clear c0 c1
  obtain ⟨c0, c1⟩ := HB.out w2 K2.out
  obtain ⟨w3, hV⟩ : ∃ x, x = ((w2.alloc (.cells #[.int .i64 0, .int .i64 0] 53)).alloc (.cells #[.int .i64 3652424, .int .i64 3652424] 53)).alloc (.cells #[.bool true, .int .i64 0, .slice (some ⟨w2.heap.size, 0, none⟩) 1 1, .slice (some ⟨w2.heap.size + 1, 0, none⟩) 1 1] 47) := ⟨_, rfl⟩
  have kv : Kp w2 w3 := by rw [hV]; exact ((Kp.alloc _ _).trans (Kp.alloc _ _)).trans (Kp.alloc _ _)
  have gv : w3.heap[w2.heap.size + 2]? = some (.cells #[.bool true, .int .i64 0, .slice (some ⟨w2.heap.size, 0, none⟩) 1 1, .slice (some ⟨w2.heap.size + 1, 0, none⟩) 1 1] 47 (0, 0)) := by rw [hV]; exact heap_at _ _ _ (by simp)
  have r1 : RunsAt w3 (.slice (some ⟨w2.heap.size, 0, none⟩) 1 1) [(0, 0)] := by rw [hV]; exact (one_at w2 0 0 _).kp ((Kp.alloc _ _).trans (Kp.alloc _ _))
  have r2 : RunsAt w3 (.slice (some ⟨w2.heap.size + 1, 0, none⟩) 1 1) [(3652424, 3652424)] := by
    have h := one_at (w2.alloc (.cells #[.int .i64 0, .int .i64 0] 53)) 3652424 3652424 53
    rw [show (w2.alloc (.cells #[.int .i64 0, .int .i64 0] 53)).heap.size = w2.heap.size + 1 by simp] at h
    rw [hV]
    exact h.kp (Kp.alloc _ _)
  have LY := Lib.hid (show LeavesAt w3 (.slice (some ⟨w2.heap.size + 2, 0, none⟩) 1 1) [spnF 0 3652424] from leaf_oneN gv r1 r2)
  have K3 := Lib.hid (K2.out.trans kv)
  have HV3 := Lib.hid hV
  clear hV kv gv r1 r2
  go_wp2_with fail
  rw [← HV3.out]
  clear c0 c1
  obtain ⟨c0, c1⟩ := HB.out w3 K3.out
  refine (N1.out _ _ (by first | with_reducible exact K3.out | with_reducible exact K3.out.trans (Kp.alloc _ _) | with_reducible exact (K3.out.trans (Kp.alloc _ _)).trans (Kp.alloc _ _) | with_reducible exact ((K3.out.trans (Kp.alloc _ _)).trans (Kp.alloc _ _)).trans (Kp.alloc _ _) | with_reducible exact K3.out.trans (Kp.drew _) | with_reducible exact K3.out.trans (Kp.drewN _ _)) LY.out).mono ?_
  rintro e w4 ⟨da, L, ca, n, rfl, ⟨la, pa⟩, kk⟩
  have K4 := Lib.hid ((show Kp W0 _ from (by first | with_reducible exact K3.out | with_reducible exact K3.out.trans (Kp.alloc _ _) | with_reducible exact (K3.out.trans (Kp.alloc _ _)).trans (Kp.alloc _ _) | with_reducible exact ((K3.out.trans (Kp.alloc _ _)).trans (Kp.alloc _ _)).trans (Kp.alloc _ _) | with_reducible exact K3.out.trans (Kp.drew _) | with_reducible exact K3.out.trans (Kp.drewN _ _))).trans kk)
  have LA := Lib.hid la
  have PA := Lib.hid pa
  clear kk la pa
  clear c0 c1
  obtain ⟨c0, c1⟩ := HB.out w4 K4.out
  clear LY HV3 N1
  have OKL := Lib.hid (nar_ok PA.out).1
  by_cases h8 : n = 8
  · subst h8
    have e0 := (nar_ok PA.out).2.1 (by decide)
    subst e0
    clear PA LA NN N0 HL HV TT HL1 HX1 OKL
    have e1 : (([] : List LF).length) = 0 := rfl
    go_wp2_with fail
    go_wp2
    go_ret
    exact ⟨rfl, K00.out.trans K4.out⟩
  have q1 : (n == 8) = false := by simp [h8]
  obtain ⟨hH, hN⟩ := free_told PA.out h8 pS pE
  have HN := Lib.hid hN
  have HH := Lib.hid hH
  clear h8 hN hH PA
  generalize noneN l = E at *
  have KW4 := Lib.hid (K4.out)
  go_wp2_with fail
  go_loopw [9, 10] (fun v i wr => ∃ k : Nat, k ≤ l.length ∧ i = .int .i64 k ∧ v = .bool (E k) ∧ Hid (Kp w4 wr)) (fun _ i _ => l.length - (intOf i).toNat)
  case atStart => exact ⟨0, Nat.zero_le _, rfl, by rw [N0.out], Lib.hid (Kp.refl _)⟩
  case round =>
    obtain ⟨k, hk, rfl, rfl, J⟩ := hrel
    have KJ := Lib.hid (K4.out.trans J.out)
    by_cases hlt : k < l.length
    · rcases HV.out.kp (K00.out.trans KJ.out) with ⟨_, _, _, e⟩ | ⟨b0, off, cap, ev, hc, hmx, hx⟩
      · rw [e] at hlt; simp at hlt
      cases ev
      obtain ⟨va, vb, d0, d1, d2, d3, ra, rb⟩ := hx k hlt
      have LOK := HL.out _ (lat_mem hlt)
      obtain ⟨f, hf⟩ : ∃ f, lat l k = f := ⟨_, rfl⟩
      rw [hf] at d0 d1 ra rb
      (try rw [hf] at LOK)
      obtain ⟨sp, u, a, b⟩ := f
      simp only at d0 d1 ra rb
      (try simp only at LOK)
      obtain ⟨aa, ca, rfl⟩ := ra.slice
      obtain ⟨ab, cb, rfl⟩ := rb.slice
      have HF := Lib.hid hf
      have z1 : (k : Int) < (l.length : Int) := by omega
      have z2 : (0 : Int) ≤ (k : Int) := by omega
      clear hx hc hmx hf
      have N := NN.out k hlt
      rw [HF.out] at N
      have ok : LeafOk wr ⟨sp, u, a, b⟩ _ _ := ⟨ra, rb, LOK.1, LOK.2.1, LOK.2.2.1, LOK.2.2.2⟩
      have C := Lib.hid (fun w1 (kk : Kp wr w1) => leafEmpty_any ⟨sp, u, a, b⟩ _ _ w1 (ok.kp kk) (TT.out.kp (K00.out.trans (KJ.out.trans kk))).2)
      simp only [leafV] at C
      generalize emptyF (famR ⟨sp, u, a, b⟩) = q at *
      have KR := Lib.hid (Kp.refl wr)
      have NH := Lib.hid N
      clear N ra rb ok HN
      cases hE : E k with
      | false =>
        have N2 := Lib.hid (show E (k + 1) = false by rw [NH.out, hE]; rfl)
        clear hE NH
        go_wp2
        go_roundw
        case rel => exact ⟨k + 1, by omega, by go_num, by rw [N2.out], J⟩
        case measure => simp [intOf]; omega
      | true =>
        have N2 := Lib.hid (show E (k + 1) = q by rw [NH.out, hE]; rfl)
        clear hE NH
        go_wp2_with fail
        refine (C.out _ (by first | with_reducible exact KR.out | with_reducible exact KR.out.trans (Kp.alloc _ _) | with_reducible exact (KR.out.trans (Kp.alloc _ _)).trans (Kp.alloc _ _) | with_reducible exact ((KR.out.trans (Kp.alloc _ _)).trans (Kp.alloc _ _)).trans (Kp.alloc _ _) | with_reducible exact KR.out.trans (Kp.drew _) | with_reducible exact KR.out.trans (Kp.drewN _ _))).mono ?_
        rintro e w5 ⟨rfl, kk⟩
        have J1 := Lib.hid (J.out.trans ((show Kp wr _ from (by first | with_reducible exact KR.out | with_reducible exact KR.out.trans (Kp.alloc _ _) | with_reducible exact (KR.out.trans (Kp.alloc _ _)).trans (Kp.alloc _ _) | with_reducible exact ((KR.out.trans (Kp.alloc _ _)).trans (Kp.alloc _ _)).trans (Kp.alloc _ _) | with_reducible exact KR.out.trans (Kp.drew _) | with_reducible exact KR.out.trans (Kp.drewN _ _))).trans kk))
        clear kk
        go_wp2
        go_roundw
        case rel => exact ⟨k + 1, by omega, by go_num, by rw [N2.out], J1⟩
        case measure => simp [intOf]; omega
    · obtain rfl : k = l.length := by omega
      have HXr := Lib.hid (fun w' (kk : Kp wr w') => HX1.out _ L w' (LA.out.kp (J.out.trans kk)) OKL.out (KJ.out.trans kk))
      have HLr := Lib.hid (fun w' (kk : Kp wr w') => HL1.out w' (KJ.out.trans kk))
      rw [HH.out] at HXr
      have hN := HN.out
      have LL := LA.out.len
      unfold maxLen at LL
      obtain ⟨wx, hwx⟩ : ∃ x, x = wr := ⟨_, rfl⟩
      subst hwx
      clear HX1 HL1 LA OKL HN HH HL HV NN N0 TT hlt hk
      generalize hasL l pS pE = bl at *
      generalize L.length = yl at *
      have eb : (bl == bl) = true := by simp
      rcases hN with ⟨rfl, hE⟩ | ⟨rfl, hE⟩
      ·
        rw [hE]
        clear hE
        have KS := Lib.hid (fun w' (kq : Kp wx w') => show w'.cell? ⟨w.heap.size, 0, none⟩ = some (.int .i64 pS) ∧ w'.cell? ⟨w.heap.size, 1, none⟩ = some (.int .i64 pE) ∧ Kp wx w' from ⟨(HB.out w' (KJ.out.trans kq)).1, (HB.out w' (KJ.out.trans kq)).2, kq⟩)
        go_wp2_with fail
        refine wp_region_held_drew (S := fun w' => w'.cell? ⟨w.heap.size, 0, none⟩ = some (.int .i64 pS) ∧ w'.cell? ⟨w.heap.size, 1, none⟩ = some (.int .i64 pE) ∧ Kp wx w') (by kernel_rfl) ?_ (fun hHeld0 => ?_)
        · (try dsimp only); exact KS.out _ (by first | assumption | exact Kp.drew _)
        refine tkW (v := ?_) 0 nwFr0 rfl (by kernel_rfl) (by kernel_rfl) (by kernel_rfl) (fun _ _ _ h => h) (by rfl) ?_ (by assumption) ?_
        rotate_left
        · intro w hSw; (try dsimp only at hSw); go_simp; (try with_reducible rfl)
        (try simp only [Act.put, nwFr0, List.setIfInBounds_toArray, List.set_cons_zero, List.set_cons_succ])
        refine tkW (v := ?_) 1 nwFr1 rfl (by kernel_rfl) (by kernel_rfl) (by kernel_rfl) (fun _ _ _ h => h) (by rfl) ?_ (by assumption) ?_
        rotate_left
        · intro w hSw; (try dsimp only at hSw); go_simp; (try with_reducible rfl)
        (try simp only [Act.put, nwFr1, List.setIfInBounds_toArray, List.set_cons_zero, List.set_cons_succ])
        refine tkW (v := ?_) 2 nwFr2 rfl (by kernel_rfl) (by kernel_rfl) (by kernel_rfl) (fun _ _ _ h => h) (by rfl) ?_ (by assumption) ?_
        rotate_left
        · intro w hSw; (try dsimp only at hSw); go_simp; (try with_reducible rfl)
        (try simp only [Act.put, nwFr2, List.setIfInBounds_toArray, List.set_cons_zero, List.set_cons_succ])
        refine tkW (v := ?_) 3 nwFr3 rfl (by kernel_rfl) (by kernel_rfl) (by kernel_rfl) (fun _ _ _ h => h) (by rfl) ?_ (by assumption) ?_
        rotate_left
        · intro w hSw; (try dsimp only at hSw); go_simp; (try with_reducible rfl)
        (try simp only [Act.put, nwFr3, List.setIfInBounds_toArray, List.set_cons_zero, List.set_cons_succ])
        refine tkW (v := ?_) 4 nwFr4 rfl (by kernel_rfl) (by kernel_rfl) (by kernel_rfl) (fun _ _ _ h => h) (by rfl) ?_ (by assumption) ?_
        rotate_left
        · intro w hSw; (try dsimp only at hSw); go_simp; (try with_reducible rfl)
        (try simp only [Act.put, nwFr4, List.setIfInBounds_toArray, List.set_cons_zero, List.set_cons_succ])
        refine tkW (v := ?_) 5 nwFr5 rfl (by kernel_rfl) (by kernel_rfl) (by kernel_rfl) (fun _ _ _ h => h) (by rfl) ?_ (by assumption) ?_
        rotate_left
        · intro w hSw; (try dsimp only at hSw); go_simp; (try with_reducible rfl)
        (try simp only [Act.put, nwFr5, List.setIfInBounds_toArray, List.set_cons_zero, List.set_cons_succ])
        refine tkW (v := ?_) 6 nwFr6 rfl (by kernel_rfl) (by kernel_rfl) (by kernel_rfl) (fun _ _ _ h => h) (by rfl) ?_ (by assumption) ?_
        rotate_left
        · intro w hSw; (try dsimp only at hSw); go_simp; (try with_reducible rfl)
        (try simp only [Act.put, nwFr6, List.setIfInBounds_toArray, List.set_cons_zero, List.set_cons_succ])
        refine tkW (v := ?_) 7 nwFr7 rfl (by kernel_rfl) (by kernel_rfl) (by kernel_rfl) (fun _ _ _ h => h) (by rfl) ?_ (by assumption) ?_
        rotate_left
        · intro w hSw; (try dsimp only at hSw); go_simp; (try with_reducible rfl)
        (try simp only [Act.put, nwFr7, List.setIfInBounds_toArray, List.set_cons_zero, List.set_cons_succ])
        refine tkW (v := ?_) 8 nwFr8 rfl (by kernel_rfl) (by kernel_rfl) (by kernel_rfl) (fun _ _ _ h => h) (by rfl) ?_ (by assumption) ?_
        rotate_left
        · intro w hSw; (try dsimp only at hSw); go_simp; (try with_reducible rfl)
        (try simp only [Act.put, nwFr8, List.setIfInBounds_toArray, List.set_cons_zero, List.set_cons_succ])
        refine tkW (v := ?_) 9 nwFr9 rfl (by kernel_rfl) (by kernel_rfl) (by kernel_rfl) (fun _ _ _ h => h) (by rfl) ?_ (by assumption) ?_
        rotate_left
        · intro w hSw; (try dsimp only at hSw); go_simp; (try with_reducible rfl)
        (try simp only [Act.put, nwFr9, List.setIfInBounds_toArray, List.set_cons_zero, List.set_cons_succ])
        refine tkW (v := ?_) 11 nwFr11 rfl (by kernel_rfl) (by kernel_rfl) (by kernel_rfl) (fun _ _ _ h => h) (by rfl) ?_ (by assumption) ?_
        rotate_left
        · intro w hSw; (try dsimp only at hSw); go_simp; (try with_reducible rfl)
        (try simp only [Act.put, nwFr11, List.setIfInBounds_toArray, List.set_cons_zero, List.set_cons_succ])
        refine tkW (v := ?_) 12 nwFr12 rfl (by kernel_rfl) (by kernel_rfl) (by kernel_rfl) (fun _ _ _ h => h) (by rfl) ?_ (by assumption) ?_
        rotate_left
        · intro w hSw; (try dsimp only at hSw); go_simp; (try with_reducible rfl)
        (try simp only [Act.put, nwFr12, List.setIfInBounds_toArray, List.set_cons_zero, List.set_cons_succ])
        refine tkE 10 nwFr10 rfl (by kernel_rfl) (fun K hK => ?_)
        go_simp
        (refine (HXr.out _ (by first | assumption | exact Kp.drew _)).mono ?_; rintro e w' ⟨rfl, k1⟩; have k2 := Kp.trans (show Kp wx _ from (by first | assumption | exact Kp.drew _)) k1; clear k1)
        (try go_wp2_with fail)
        refine hK.out _ _ ?_ (fun hHeld1 => ?_)
        · (try dsimp only); exact KS.out _ (by first | assumption | exact Kp.drew _)
        clear hK K hHeld0
        (try simp only [Act.put, nwFr10, List.setIfInBounds_toArray, List.set_cons_zero, List.set_cons_succ])
        refine tkE 13 nwFr13 rfl (by kernel_rfl) (fun K hK => ?_)
        go_simp
        (refine (HLr.out _ (by first | assumption | exact Kp.drew _)).mono ?_; rintro e w' ⟨rfl, k1⟩; have k2 := Kp.trans (show Kp wx _ from (by first | assumption | exact Kp.drew _)) k1; clear k1)
        (try go_wp2_with fail)
        refine hK.out _ _ ?_ (fun hHeld2 => ?_)
        · (try dsimp only); exact KS.out _ (by first | assumption | exact Kp.drew _)
        clear hK K hHeld1
        (try simp only [Act.put, nwFr13, List.setIfInBounds_toArray, List.set_cons_zero, List.set_cons_succ])
        refine tkW (v := ?_) 14 nwFr14 rfl (by kernel_rfl) (by kernel_rfl) (by kernel_rfl) (fun _ _ _ h => h) (by rfl) ?_ (by assumption) ?_
        rotate_left
        · intro w hSw; (try dsimp only at hSw); go_simp; (try with_reducible rfl)
        (try simp only [Act.put, nwFr14, List.setIfInBounds_toArray, List.set_cons_zero, List.set_cons_succ])
        refine tkW (v := ?_) 15 nwFr15 rfl (by kernel_rfl) (by kernel_rfl) (by kernel_rfl) (fun _ _ _ h => h) (by rfl) ?_ (by assumption) ?_
        rotate_left
        · intro w hSw; (try dsimp only at hSw); go_simp; (try with_reducible rfl)
        (try simp only [Act.put, nwFr15, List.setIfInBounds_toArray, List.set_cons_zero, List.set_cons_succ])
        refine tkW (v := ?_) 16 nwFr16 rfl (by kernel_rfl) (by kernel_rfl) (by kernel_rfl) (fun _ _ _ h => h) (by rfl) ?_ (by assumption) ?_
        rotate_left
        · intro w hSw; (try dsimp only at hSw); go_simp; (try with_reducible rfl)
        (try simp only [Act.put, nwFr16, List.setIfInBounds_toArray, List.set_cons_zero, List.set_cons_succ])
        refine wpAnyH_done (by kernel_rfl) ?_ _
        go_wp2
        go_ret
        exact ⟨rfl, K00.out.trans (KJ.out.trans (by first | assumption | exact Kp.drew _))⟩
      ·
        rw [hE]
        clear hE
        have KS := Lib.hid (fun w' (kq : Kp wx w') => show w'.cell? ⟨w.heap.size, 0, none⟩ = some (.int .i64 pS) ∧ w'.cell? ⟨w.heap.size, 1, none⟩ = some (.int .i64 pE) ∧ Kp wx w' from ⟨(HB.out w' (KJ.out.trans kq)).1, (HB.out w' (KJ.out.trans kq)).2, kq⟩)
        go_wp2_with fail
        refine wp_region_held_drew (S := fun w' => w'.cell? ⟨w.heap.size, 0, none⟩ = some (.int .i64 pS) ∧ w'.cell? ⟨w.heap.size, 1, none⟩ = some (.int .i64 pE) ∧ Kp wx w') (by kernel_rfl) ?_ (fun hHeld0 => ?_)
        · (try dsimp only); exact KS.out _ (by first | assumption | exact Kp.drew _)
        refine tkW (v := ?_) 0 nwFr0 rfl (by kernel_rfl) (by kernel_rfl) (by kernel_rfl) (fun _ _ _ h => h) (by rfl) ?_ (by assumption) ?_
        rotate_left
        · intro w hSw; (try dsimp only at hSw); go_simp; (try with_reducible rfl)
        (try simp only [Act.put, nwFr0, List.setIfInBounds_toArray, List.set_cons_zero, List.set_cons_succ])
        refine tkW (v := ?_) 1 nwFr1 rfl (by kernel_rfl) (by kernel_rfl) (by kernel_rfl) (fun _ _ _ h => h) (by rfl) ?_ (by assumption) ?_
        rotate_left
        · intro w hSw; (try dsimp only at hSw); go_simp; (try with_reducible rfl)
        (try simp only [Act.put, nwFr1, List.setIfInBounds_toArray, List.set_cons_zero, List.set_cons_succ])
        refine tkW (v := ?_) 2 nwFr2 rfl (by kernel_rfl) (by kernel_rfl) (by kernel_rfl) (fun _ _ _ h => h) (by rfl) ?_ (by assumption) ?_
        rotate_left
        · intro w hSw; (try dsimp only at hSw); go_simp; (try with_reducible rfl)
        (try simp only [Act.put, nwFr2, List.setIfInBounds_toArray, List.set_cons_zero, List.set_cons_succ])
        refine tkW (v := ?_) 3 nwFr3 rfl (by kernel_rfl) (by kernel_rfl) (by kernel_rfl) (fun _ _ _ h => h) (by rfl) ?_ (by assumption) ?_
        rotate_left
        · intro w hSw; (try dsimp only at hSw); go_simp; (try with_reducible rfl)
        (try simp only [Act.put, nwFr3, List.setIfInBounds_toArray, List.set_cons_zero, List.set_cons_succ])
        refine tkW (v := ?_) 4 nwFr4 rfl (by kernel_rfl) (by kernel_rfl) (by kernel_rfl) (fun _ _ _ h => h) (by rfl) ?_ (by assumption) ?_
        rotate_left
        · intro w hSw; (try dsimp only at hSw); go_simp; (try with_reducible rfl)
        (try simp only [Act.put, nwFr4, List.setIfInBounds_toArray, List.set_cons_zero, List.set_cons_succ])
        refine tkW (v := ?_) 5 nwFr5 rfl (by kernel_rfl) (by kernel_rfl) (by kernel_rfl) (fun _ _ _ h => h) (by rfl) ?_ (by assumption) ?_
        rotate_left
        · intro w hSw; (try dsimp only at hSw); go_simp; (try with_reducible rfl)
        (try simp only [Act.put, nwFr5, List.setIfInBounds_toArray, List.set_cons_zero, List.set_cons_succ])
        refine tkW (v := ?_) 6 nwFr6 rfl (by kernel_rfl) (by kernel_rfl) (by kernel_rfl) (fun _ _ _ h => h) (by rfl) ?_ (by assumption) ?_
        rotate_left
        · intro w hSw; (try dsimp only at hSw); go_simp; (try with_reducible rfl)
        (try simp only [Act.put, nwFr6, List.setIfInBounds_toArray, List.set_cons_zero, List.set_cons_succ])
        refine tkW (v := ?_) 7 nwFr7 rfl (by kernel_rfl) (by kernel_rfl) (by kernel_rfl) (fun _ _ _ h => h) (by rfl) ?_ (by assumption) ?_
        rotate_left
        · intro w hSw; (try dsimp only at hSw); go_simp; (try with_reducible rfl)
        (try simp only [Act.put, nwFr7, List.setIfInBounds_toArray, List.set_cons_zero, List.set_cons_succ])
        refine tkW (v := ?_) 8 nwFr8 rfl (by kernel_rfl) (by kernel_rfl) (by kernel_rfl) (fun _ _ _ h => h) (by rfl) ?_ (by assumption) ?_
        rotate_left
        · intro w hSw; (try dsimp only at hSw); go_simp; (try with_reducible rfl)
        (try simp only [Act.put, nwFr8, List.setIfInBounds_toArray, List.set_cons_zero, List.set_cons_succ])
        refine tkW (v := ?_) 9 nwFr9 rfl (by kernel_rfl) (by kernel_rfl) (by kernel_rfl) (fun _ _ _ h => h) (by rfl) ?_ (by assumption) ?_
        rotate_left
        · intro w hSw; (try dsimp only at hSw); go_simp; (try with_reducible rfl)
        (try simp only [Act.put, nwFr9, List.setIfInBounds_toArray, List.set_cons_zero, List.set_cons_succ])
        refine tkW (v := ?_) 11 nwFr11 rfl (by kernel_rfl) (by kernel_rfl) (by kernel_rfl) (fun _ _ _ h => h) (by rfl) ?_ (by assumption) ?_
        rotate_left
        · intro w hSw; (try dsimp only at hSw); go_simp; (try with_reducible rfl)
        (try simp only [Act.put, nwFr11, List.setIfInBounds_toArray, List.set_cons_zero, List.set_cons_succ])
        refine tkW (v := ?_) 12 nwFr12 rfl (by kernel_rfl) (by kernel_rfl) (by kernel_rfl) (fun _ _ _ h => h) (by rfl) ?_ (by assumption) ?_
        rotate_left
        · intro w hSw; (try dsimp only at hSw); go_simp; (try with_reducible rfl)
        (try simp only [Act.put, nwFr12, List.setIfInBounds_toArray, List.set_cons_zero, List.set_cons_succ])
        refine tkE 10 nwFr10 rfl (by kernel_rfl) (fun K hK => ?_)
        go_simp
        (refine (HXr.out _ (by first | assumption | exact Kp.drew _)).mono ?_; rintro e w' ⟨rfl, k1⟩; have k2 := Kp.trans (show Kp wx _ from (by first | assumption | exact Kp.drew _)) k1; clear k1)
        (try go_wp2_with fail)
        refine hK.out _ _ ?_ (fun hHeld1 => ?_)
        · (try dsimp only); exact KS.out _ (by first | assumption | exact Kp.drew _)
        clear hK K hHeld0
        (try simp only [Act.put, nwFr10, List.setIfInBounds_toArray, List.set_cons_zero, List.set_cons_succ])
        refine tkE 13 nwFr13 rfl (by kernel_rfl) (fun K hK => ?_)
        go_simp
        (refine (HLr.out _ (by first | assumption | exact Kp.drew _)).mono ?_; rintro e w' ⟨rfl, k1⟩; have k2 := Kp.trans (show Kp wx _ from (by first | assumption | exact Kp.drew _)) k1; clear k1)
        (try go_wp2_with fail)
        refine hK.out _ _ ?_ (fun hHeld2 => ?_)
        · (try dsimp only); exact KS.out _ (by first | assumption | exact Kp.drew _)
        clear hK K hHeld1
        (try simp only [Act.put, nwFr13, List.setIfInBounds_toArray, List.set_cons_zero, List.set_cons_succ])
        refine tkW (v := ?_) 14 nwFr14 rfl (by kernel_rfl) (by kernel_rfl) (by kernel_rfl) (fun _ _ _ h => h) (by rfl) ?_ (by assumption) ?_
        rotate_left
        · intro w hSw; (try dsimp only at hSw); go_simp; (try with_reducible rfl)
        (try simp only [Act.put, nwFr14, List.setIfInBounds_toArray, List.set_cons_zero, List.set_cons_succ])
        refine tkW (v := ?_) 15 nwFr15 rfl (by kernel_rfl) (by kernel_rfl) (by kernel_rfl) (fun _ _ _ h => h) (by rfl) ?_ (by assumption) ?_
        rotate_left
        · intro w hSw; (try dsimp only at hSw); go_simp; (try with_reducible rfl)
        (try simp only [Act.put, nwFr15, List.setIfInBounds_toArray, List.set_cons_zero, List.set_cons_succ])
        refine tkW (v := ?_) 16 nwFr16 rfl (by kernel_rfl) (by kernel_rfl) (by kernel_rfl) (fun _ _ _ h => h) (by rfl) ?_ (by assumption) ?_
        rotate_left
        · intro w hSw; (try dsimp only at hSw); go_simp; (try with_reducible rfl)
        (try simp only [Act.put, nwFr16, List.setIfInBounds_toArray, List.set_cons_zero, List.set_cons_succ])
        refine wpAnyH_done (by kernel_rfl) ?_ _
        go_wp2
        go_ret
        exact ⟨rfl, K00.out.trans (KJ.out.trans (by first | assumption | exact Kp.drew _))⟩
set_option maxHeartbeats 16000000 in
set_option maxRecDepth 100000 in
theorem narrowFree_walk (vl : Value) (l : List LF) (pS pE : Int) (w : World) (rl : LeavesAt w vl l) (gl : ∀ f ∈ l, LeafG f) (hp1 : -9223372036854775808 ≤ pS) (hp2 : pS ≤ 9223372036854775807) (hp3 : -9223372036854775808 ≤ pE) (hp4 : pE ≤ 9223372036854775807) (T : Tabs w) :
    Calls Tryz.prog 8 #[vl, .agg #[.int .i64 pS, .int .i64 pE]] w fun e w' => e = .returned (.bool true) ∧ Kp w w' := by
  rcases Bool.eq_false_or_eq_true (few22 l) with hf | hf
  · exact nfre_main vl l pS pE w rl gl hp1 hp2 hp3 hp4 T hf
  · exact nfre_f1 vl l pS pE w rl gl hp1 hp2 hp3 hp4 T hf
end Go.Proofs.YtjdnejglapnbbaaGreatDoor
