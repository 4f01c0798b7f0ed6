/-
  Contracts of package narrow: around, Inside.
-/
import Derived.Test.YtjdnejglapnbbaaGreatDoorNwA
import Derived.Test.YtjdnejglapnbbaaGreatDoorGLeafA
import Derived.LoopTactic
namespace Go.Proofs.YtjdnejglapnbbaaGreatDoor
open Go.RowKit
set_option linter.unusedVariables false
set_option linter.unusedSimpArgs false
abbrev nwaA0 : Oper := { dst := some 8, op := Go.Op.fieldAddr 47 (Go.Operand.tmp 2) 1, type := 0, pos := "narrow.go:120", after := #[], guard := none }
abbrev nwaA1 : Oper := { dst := some 9, op := Go.Op.load 3 (Go.Operand.tmp 8), type := 3, pos := "narrow.go:120", after := #[{ on := 0, ground := Go.Ground.data }], guard := none }
abbrev nwaA2 : Oper := { dst := some 10, op := Go.Op.fieldAddr 47 (Go.Operand.tmp 2) 2, type := 0, pos := "narrow.go:120", after := #[], guard := none }
abbrev nwaA3 : Oper := { dst := some 11, op := Go.Op.load 38 (Go.Operand.tmp 10), type := 38, pos := "narrow.go:120", after := #[{ on := 2, ground := Go.Ground.data }], guard := none }
abbrev nwaA4 : Oper := { dst := some 12, op := Go.Op.fieldAddr 47 (Go.Operand.tmp 2) 1, type := 0, pos := "narrow.go:120", after := #[], guard := none }
abbrev nwaA5 : Oper := { dst := some 13, op := Go.Op.load 3 (Go.Operand.tmp 12), type := 3, pos := "narrow.go:120", after := #[{ on := 4, ground := Go.Ground.data }], guard := none }
abbrev nwaA6 : Oper := { dst := some 14, op := Go.Op.move (Go.Operand.tmp 1), type := 3, pos := "narrow.go:120", after := #[], guard := none }
abbrev nwaA7 : Oper := { dst := some 15, op := Go.Op.move (Go.Operand.tmp 1), type := 3, pos := "narrow.go:120", after := #[], guard := none }
abbrev nwaA8 : Oper := { dst := some 16, op := Go.Op.call { callee := Go.Callee.value (Go.Operand.func 132), args := #[Go.Operand.tmp 13, Go.Operand.tmp 14, Go.Operand.tmp 15], argTypes := #[3, 3, 3] }, type := 38, pos := "narrow.go:120", after := #[{ on := 5, ground := Go.Ground.data }, { on := 6, ground := Go.Ground.data }, { on := 7, ground := Go.Ground.data }], guard := none }
abbrev nwaA9 : Oper := { dst := some 17, op := Go.Op.call { callee := Go.Callee.value (Go.Operand.func 123), args := #[Go.Operand.tmp 11, Go.Operand.tmp 16], argTypes := #[38, 38] }, type := 38, pos := "narrow.go:120", after := #[{ on := 3, ground := Go.Ground.data }, { on := 8, ground := Go.Ground.data }, { on := 8, ground := Go.Ground.chain }], guard := none }
abbrev nwaA10 : Oper := { dst := some 18, op := Go.Op.call { callee := Go.Callee.value (Go.Operand.func 131), args := #[Go.Operand.tmp 9, Go.Operand.tmp 17], argTypes := #[3, 38] }, type := 38, pos := "narrow.go:120", after := #[{ on := 1, ground := Go.Ground.data }, { on := 9, ground := Go.Ground.data }, { on := 9, ground := Go.Ground.chain }], guard := none }
abbrev nwaA11 : Oper := { dst := some 4, op := Go.Op.assign (Go.Operand.tmp 18), type := 38, pos := "narrow.go:120", after := #[{ on := 10, ground := Go.Ground.data }, { on := 10, ground := Go.Ground.chain }, { on := 0, ground := Go.Ground.phase }, { on := 1, ground := Go.Ground.phase }, { on := 2, ground := Go.Ground.phase }, { on := 3, ground := Go.Ground.phase }, { on := 4, ground := Go.Ground.phase }, { on := 5, ground := Go.Ground.phase }, { on := 6, ground := Go.Ground.phase }, { on := 7, ground := Go.Ground.phase }, { on := 8, ground := Go.Ground.phase }, { on := 9, ground := Go.Ground.phase }, { on := 10, ground := Go.Ground.phase }], guard := none }
abbrev nwaB0 : Oper := { dst := some 19, op := Go.Op.fieldAddr 47 (Go.Operand.tmp 2) 2, type := 0, pos := "narrow.go:122", after := #[], guard := none }
abbrev nwaB1 : Oper := { dst := some 20, op := Go.Op.load 38 (Go.Operand.tmp 19), type := 38, pos := "narrow.go:122", after := #[{ on := 0, ground := Go.Ground.data }], guard := none }
abbrev nwaB2 : Oper := { dst := some 21, op := Go.Op.call { callee := Go.Callee.value (Go.Operand.func 116), args := #[Go.Operand.tmp 20], argTypes := #[38] }, type := 3, pos := "narrow.go:122", after := #[{ on := 1, ground := Go.Ground.data }], guard := none }
abbrev nwaB3 : Oper := { dst := some 22, op := Go.Op.fieldAddr 47 (Go.Operand.tmp 2) 3, type := 0, pos := "narrow.go:122", after := #[], guard := none }
abbrev nwaB4 : Oper := { dst := some 23, op := Go.Op.load 38 (Go.Operand.tmp 22), type := 38, pos := "narrow.go:122", after := #[{ on := 3, ground := Go.Ground.data }], guard := none }
abbrev nwaB5 : Oper := { dst := some 24, op := Go.Op.call { callee := Go.Callee.value (Go.Operand.func 117), args := #[Go.Operand.tmp 23], argTypes := #[38] }, type := 3, pos := "narrow.go:122", after := #[{ on := 4, ground := Go.Ground.data }, { on := 2, ground := Go.Ground.chain }], guard := none }
abbrev nwaB6 : Oper := { dst := some 25, op := Go.Op.build 53 #[(0, Go.Operand.tmp 21), (1, Go.Operand.tmp 24)], type := 53, pos := "narrow.go:122", after := #[{ on := 2, ground := Go.Ground.data }, { on := 5, ground := Go.Ground.data }], guard := none }
abbrev nwaB7 : Oper := { dst := some 26, op := Go.Op.buildSlice 38 1 #[(0, Go.Operand.tmp 25)], type := 38, pos := "narrow.go:122", after := #[{ on := 6, ground := Go.Ground.data }], guard := none }
abbrev nwaB8 : Oper := { dst := some 4, op := Go.Op.assign (Go.Operand.tmp 26), type := 38, pos := "narrow.go:122", after := #[{ on := 7, ground := Go.Ground.data }, { on := 5, ground := Go.Ground.chain }, { on := 0, ground := Go.Ground.phase }, { on := 1, ground := Go.Ground.phase }, { on := 2, ground := Go.Ground.phase }, { on := 3, ground := Go.Ground.phase }, { on := 4, ground := Go.Ground.phase }, { on := 5, ground := Go.Ground.phase }, { on := 6, ground := Go.Ground.phase }, { on := 7, ground := Go.Ground.phase }], guard := none }
set_option maxHeartbeats 16000000 in
set_option maxRecDepth 100000 in
theorem nwAroundU (u : Int) (a b : List R) (va vb : Value) (d : Int) (w : World) (h : LeafOk w ⟨false, u, a, b⟩ va vb) (T : Tabs w) :
    Calls Tryz.prog 69 #[leafV ⟨false, u, a, b⟩ va vb, .int .i64 d] w fun e w' => ∃ v, e = .returned v ∧ RunsAt w' v (coverR u (interR a (touR u d d))) ∧ Kp w w' := by
  obtain ⟨aa, ca, rfl⟩ := h.a.slice
  obtain ⟨ab, cb, rfl⟩ := h.b.slice
  unfold leafV
  simp only
  have n1 : (touR u d d).length ≤ 1 := by unfold touR; split <;> simp
  have n0 : a.length ≤ 1000 := h.na
  have n2 := interR_bd (a := a) (b := touR u d d) (p := 1000) (q := 1) n0 n1
  have TO := Lib.hid (fun w1 (k : Kp w w1) => touch_any u d d w1 (T.kp k))
  have ME := Lib.hid (fun v w1 (k : Kp w w1) (hv : RunsAt w1 v (touR u d d)) => meet_any (.slice aa a.length ca) v a _ w1 (h.a.kp k) hv h.ia (sane_i64 (touR_sane _ _ _)) (by omega) (by omega))
  have CO := Lib.hid (fun v w1 (k : Kp w w1) (hv : RunsAt w1 v (interR a (touR u d d))) => cover_any u v _ w1 hv (sane_i64 (interR_sane _ _)) (by omega) (T.kp k))
  generalize coverR u (interR a (touR u d d)) = C at *
  generalize interR a (touR u d d) = M at *
  generalize touR u d d = t at *
  clear h T n1 n2 n0
  obtain ⟨v0, hV⟩ : ∃ x, x = w.alloc (.cells #[.bool false, .int .i64 u, .slice aa a.length ca, .slice ab b.length cb] 47) := ⟨_, rfl⟩
  have ka : Kp w v0 := by rw [hV]; exact Kp.alloc _ _
  have gq0 : v0.heap[w.heap.size]? = some (.cells #[.bool false, .int .i64 u, .slice aa a.length ca, .slice ab b.length cb] 47 (0, 0)) := by rw [hV]; exact heap_at _ _ _ (by first | rfl | simp)
  have KS := Lib.hid (fun w' (kq : Kp v0 w') => show w'.cell? ⟨w.heap.size, 0, none⟩ = some (.bool false) ∧ w'.cell? ⟨w.heap.size, 1, none⟩ = some (.int .i64 u) ∧ w'.cell? ⟨w.heap.size, 2, none⟩ = some (.slice aa a.length ca) ∧ w'.cell? ⟨w.heap.size, 3, none⟩ = some (.slice ab b.length cb) ∧ Kp v0 w' from ⟨(row4 (heap_block kq gq0)).1, (row4 (heap_block kq gq0)).2.1, (row4 (heap_block kq gq0)).2.2.1, (row4 (heap_block kq gq0)).2.2.2, kq⟩)
  have GQ0 := Lib.hid gq0
  have HV := Lib.hid hV
  have KA := Lib.hid ka
  clear hV ka gq0
  have kkv0 : Kp v0 v0 := Kp.refl _
  go_enter Tryz.func69, Tryz.ntmps69
  go_upto_region 2 with fail
  rw [← HV.out]
  clear HV
  refine wp_region_held_drew (S := fun w' => w'.cell? ⟨w.heap.size, 0, none⟩ = some (.bool false) ∧ w'.cell? ⟨w.heap.size, 1, none⟩ = some (.int .i64 u) ∧ w'.cell? ⟨w.heap.size, 2, none⟩ = some (.slice aa a.length ca) ∧ w'.cell? ⟨w.heap.size, 3, none⟩ = some (.slice ab b.length cb) ∧ Kp v0 w') (by kernel_rfl) ?_ (fun hHeld0 => ?_)
  · (try dsimp only); exact KS.out _ (by first | with_reducible exact kkv0 | ((repeat (first | with_reducible refine Kp.trans ?_ (Kp.drew _) | with_reducible refine Kp.trans ?_ (Kp.alloc _ _))); with_reducible exact kkv0))
  refine tkW (v := ?_) 0 nwaA0 rfl (by kernel_rfl) (by kernel_rfl) (by kernel_rfl) (fun _ _ _ h => h) (by rfl) ?_ (by assumption) ?_
  rotate_left
  · intro w hSw; (try dsimp only at hSw); go_simp; (try with_reducible rfl)
  (try simp only [Act.put, nwaA0, List.setIfInBounds_toArray, List.set_cons_zero, List.set_cons_succ])
  refine tkW (v := ?_) 1 nwaA1 rfl (by kernel_rfl) (by kernel_rfl) (by kernel_rfl) (fun _ _ _ h => h) (by rfl) ?_ (by assumption) ?_
  rotate_left
  · intro w hSw; (try dsimp only at hSw); go_simp; (try with_reducible rfl)
  (try simp only [Act.put, nwaA1, List.setIfInBounds_toArray, List.set_cons_zero, List.set_cons_succ])
  refine tkW (v := ?_) 2 nwaA2 rfl (by kernel_rfl) (by kernel_rfl) (by kernel_rfl) (fun _ _ _ h => h) (by rfl) ?_ (by assumption) ?_
  rotate_left
  · intro w hSw; (try dsimp only at hSw); go_simp; (try with_reducible rfl)
  (try simp only [Act.put, nwaA2, List.setIfInBounds_toArray, List.set_cons_zero, List.set_cons_succ])
  refine tkW (v := ?_) 3 nwaA3 rfl (by kernel_rfl) (by kernel_rfl) (by kernel_rfl) (fun _ _ _ h => h) (by rfl) ?_ (by assumption) ?_
  rotate_left
  · intro w hSw; (try dsimp only at hSw); go_simp; (try with_reducible rfl)
  (try simp only [Act.put, nwaA3, List.setIfInBounds_toArray, List.set_cons_zero, List.set_cons_succ])
  refine tkW (v := ?_) 4 nwaA4 rfl (by kernel_rfl) (by kernel_rfl) (by kernel_rfl) (fun _ _ _ h => h) (by rfl) ?_ (by assumption) ?_
  rotate_left
  · intro w hSw; (try dsimp only at hSw); go_simp; (try with_reducible rfl)
  (try simp only [Act.put, nwaA4, List.setIfInBounds_toArray, List.set_cons_zero, List.set_cons_succ])
  refine tkW (v := ?_) 5 nwaA5 rfl (by kernel_rfl) (by kernel_rfl) (by kernel_rfl) (fun _ _ _ h => h) (by rfl) ?_ (by assumption) ?_
  rotate_left
  · intro w hSw; (try dsimp only at hSw); go_simp; (try with_reducible rfl)
  (try simp only [Act.put, nwaA5, List.setIfInBounds_toArray, List.set_cons_zero, List.set_cons_succ])
  refine tkW (v := ?_) 6 nwaA6 rfl (by kernel_rfl) (by kernel_rfl) (by kernel_rfl) (fun _ _ _ h => h) (by rfl) ?_ (by assumption) ?_
  rotate_left
  · intro w hSw; (try dsimp only at hSw); go_simp; (try with_reducible rfl)
  (try simp only [Act.put, nwaA6, List.setIfInBounds_toArray, List.set_cons_zero, List.set_cons_succ])
  refine tkW (v := ?_) 7 nwaA7 rfl (by kernel_rfl) (by kernel_rfl) (by kernel_rfl) (fun _ _ _ h => h) (by rfl) ?_ (by assumption) ?_
  rotate_left
  · intro w hSw; (try dsimp only at hSw); go_simp; (try with_reducible rfl)
  (try simp only [Act.put, nwaA7, List.setIfInBounds_toArray, List.set_cons_zero, List.set_cons_succ])
  refine tkE 8 nwaA8 rfl (by kernel_rfl) (fun K hK => ?_)
  go_simp
  (refine (TO.out _ (KA.out.trans (by first | with_reducible exact kkv0 | ((repeat (first | with_reducible refine Kp.trans ?_ (Kp.drew _) | with_reducible refine Kp.trans ?_ (Kp.alloc _ _))); with_reducible exact kkv0)))).mono ?_; rintro e wa ⟨v1, rfl, o1, kq1⟩; have kkwa : Kp v0 wa := Kp.trans (show Kp v0 _ from (by first | with_reducible exact kkv0 | ((repeat (first | with_reducible refine Kp.trans ?_ (Kp.drew _) | with_reducible refine Kp.trans ?_ (Kp.alloc _ _))); with_reducible exact kkv0))) kq1; obtain ⟨a1, l1, rfl⟩ := own_slice o1; have O1 := Lib.hid (runsAt_own o1); clear o1; clear kq1)
  (try go_wp2_with fail)
  refine hK.out _ _ ?_ (fun hHeld1 => ?_)
  · (try dsimp only); exact KS.out _ (by first | with_reducible exact kkwa | ((repeat (first | with_reducible refine Kp.trans ?_ (Kp.drew _) | with_reducible refine Kp.trans ?_ (Kp.alloc _ _))); with_reducible exact kkwa))
  clear hK K hHeld0
  (try simp only [Act.put, nwaA8, List.setIfInBounds_toArray, List.set_cons_zero, List.set_cons_succ])
  refine tkE 9 nwaA9 rfl (by kernel_rfl) (fun K hK => ?_)
  go_simp
  (refine (ME.out _ _ (KA.out.trans (by first | with_reducible exact kkwa | ((repeat (first | with_reducible refine Kp.trans ?_ (Kp.drew _) | with_reducible refine Kp.trans ?_ (Kp.alloc _ _))); with_reducible exact kkwa))) (O1.out.kp (by first | with_reducible exact (Kp.refl wa) | ((repeat (first | with_reducible refine Kp.trans ?_ (Kp.drew _) | with_reducible refine Kp.trans ?_ (Kp.alloc _ _))); with_reducible exact (Kp.refl wa))))).mono ?_; rintro e wb ⟨v2, rfl, o2, kq1⟩; have kkwb : Kp v0 wb := Kp.trans (show Kp v0 _ from (by first | with_reducible exact kkwa | ((repeat (first | with_reducible refine Kp.trans ?_ (Kp.drew _) | with_reducible refine Kp.trans ?_ (Kp.alloc _ _))); with_reducible exact kkwa))) kq1; obtain ⟨a2, l2, rfl⟩ := own_slice o2; have O2 := Lib.hid (runsAt_own o2); clear o2; clear kq1)
  (try go_wp2_with fail)
  refine hK.out _ _ ?_ (fun hHeld2 => ?_)
  · (try dsimp only); exact KS.out _ (by first | with_reducible exact kkwb | ((repeat (first | with_reducible refine Kp.trans ?_ (Kp.drew _) | with_reducible refine Kp.trans ?_ (Kp.alloc _ _))); with_reducible exact kkwb))
  clear hK K hHeld1
  (try simp only [Act.put, nwaA9, List.setIfInBounds_toArray, List.set_cons_zero, List.set_cons_succ])
  refine tkE 10 nwaA10 rfl (by kernel_rfl) (fun K hK => ?_)
  go_simp
  (refine (CO.out _ _ (KA.out.trans (by first | with_reducible exact kkwb | ((repeat (first | with_reducible refine Kp.trans ?_ (Kp.drew _) | with_reducible refine Kp.trans ?_ (Kp.alloc _ _))); with_reducible exact kkwb))) (O2.out.kp (by first | with_reducible exact (Kp.refl wb) | ((repeat (first | with_reducible refine Kp.trans ?_ (Kp.drew _) | with_reducible refine Kp.trans ?_ (Kp.alloc _ _))); with_reducible exact (Kp.refl wb))))).mono ?_; rintro e wc ⟨v3, rfl, o3, kq1⟩; have kkwc : Kp v0 wc := Kp.trans (show Kp v0 _ from (by first | with_reducible exact kkwb | ((repeat (first | with_reducible refine Kp.trans ?_ (Kp.drew _) | with_reducible refine Kp.trans ?_ (Kp.alloc _ _))); with_reducible exact kkwb))) kq1; have O3 := Lib.hid (runsAt_own o3); clear o3; clear kq1)
  (try go_wp2_with fail)
  refine hK.out _ _ ?_ (fun hHeld3 => ?_)
  · (try dsimp only); exact KS.out _ (by first | with_reducible exact kkwc | ((repeat (first | with_reducible refine Kp.trans ?_ (Kp.drew _) | with_reducible refine Kp.trans ?_ (Kp.alloc _ _))); with_reducible exact kkwc))
  clear hK K hHeld2
  (try simp only [Act.put, nwaA10, List.setIfInBounds_toArray, List.set_cons_zero, List.set_cons_succ])
  refine tkW (v := ?_) 11 nwaA11 rfl (by kernel_rfl) (by kernel_rfl) (by kernel_rfl) (fun _ _ _ h => h) (by rfl) ?_ (by assumption) ?_
  rotate_left
  · intro w hSw; (try dsimp only at hSw); go_simp; (try with_reducible rfl)
  (try simp only [Act.put, nwaA11, List.setIfInBounds_toArray, List.set_cons_zero, List.set_cons_succ])
  refine wpAnyH_done (by kernel_rfl) ?_ _
  go_wp2
  go_ret
  exact ⟨_, rfl, O3.out.kp (by first | with_reducible exact (Kp.refl wc) | ((repeat (first | with_reducible refine Kp.trans ?_ (Kp.drew _) | with_reducible refine Kp.trans ?_ (Kp.alloc _ _))); with_reducible exact (Kp.refl wc))), KA.out.trans (by first | with_reducible exact kkwc | ((repeat (first | with_reducible refine Kp.trans ?_ (Kp.drew _) | with_reducible refine Kp.trans ?_ (Kp.alloc _ _))); with_reducible exact kkwc))⟩
set_option maxHeartbeats 16000000 in
set_option maxRecDepth 100000 in
theorem nwAroundS (u : Int) (a b : List R) (va vb : Value) (d : Int) (w : World) (h : LeafOk w ⟨true, u, a, b⟩ va vb) (sa : sane a) (sb : sane b) (na : 0 < a.length) (nb : 0 < b.length) :
    Calls Tryz.prog 69 #[leafV ⟨true, u, a, b⟩ va vb, .int .i64 d] w fun e w' => ∃ v, e = .returned v ∧ RunsAt w' v [(leastR a, greatR b)] ∧ Kp w w' := by
  obtain ⟨aa, ca, rfl⟩ := h.a.slice
  obtain ⟨ab, cb, rfl⟩ := h.b.slice
  unfold leafV
  simp only
  have n1 : a.length ≤ 1000 := h.na
  have n2 : b.length ≤ 1000 := h.nb
  have LE := Lib.hid (fun w1 (k : Kp w w1) => nwLeast_any (.slice aa a.length ca) a w1 (h.a.kp k) sa na (by omega))
  have GR := Lib.hid (fun w1 (k : Kp w w1) => nwGreat_any (.slice ab b.length cb) b w1 (h.b.kp k) sb nb (by omega))
  generalize leastR a = x at *
  generalize greatR b = y at *
  clear h sa sb na nb n1 n2
  obtain ⟨v0, hV⟩ : ∃ x, x = w.alloc (.cells #[.bool true, .int .i64 u, .slice aa a.length ca, .slice ab b.length cb] 47) := ⟨_, rfl⟩
  have ka : Kp w v0 := by rw [hV]; exact Kp.alloc _ _
  have gq0 : v0.heap[w.heap.size]? = some (.cells #[.bool true, .int .i64 u, .slice aa a.length ca, .slice ab b.length cb] 47 (0, 0)) := by rw [hV]; exact heap_at _ _ _ (by first | rfl | simp)
  have KS := Lib.hid (fun w' (kq : Kp v0 w') => show w'.cell? ⟨w.heap.size, 0, none⟩ = some (.bool true) ∧ w'.cell? ⟨w.heap.size, 1, none⟩ = some (.int .i64 u) ∧ w'.cell? ⟨w.heap.size, 2, none⟩ = some (.slice aa a.length ca) ∧ w'.cell? ⟨w.heap.size, 3, none⟩ = some (.slice ab b.length cb) ∧ Kp v0 w' from ⟨(row4 (heap_block kq gq0)).1, (row4 (heap_block kq gq0)).2.1, (row4 (heap_block kq gq0)).2.2.1, (row4 (heap_block kq gq0)).2.2.2, kq⟩)
  have GQ0 := Lib.hid gq0
  have HV := Lib.hid hV
  have KA := Lib.hid ka
  clear hV ka gq0
  have kkv0 : Kp v0 v0 := Kp.refl _
  go_enter Tryz.func69, Tryz.ntmps69
  go_upto_region 3 with fail
  rw [← HV.out]
  clear HV
  refine wp_region_held_drew (S := fun w' => w'.cell? ⟨w.heap.size, 0, none⟩ = some (.bool true) ∧ w'.cell? ⟨w.heap.size, 1, none⟩ = some (.int .i64 u) ∧ w'.cell? ⟨w.heap.size, 2, none⟩ = some (.slice aa a.length ca) ∧ w'.cell? ⟨w.heap.size, 3, none⟩ = some (.slice ab b.length cb) ∧ Kp v0 w') (by kernel_rfl) ?_ (fun hHeld0 => ?_)
  · (try dsimp only); exact KS.out _ (by first | with_reducible exact kkv0 | ((repeat (first | with_reducible refine Kp.trans ?_ (Kp.drew _) | with_reducible refine Kp.trans ?_ (Kp.alloc _ _))); with_reducible exact kkv0))
  refine tkW (v := ?_) 0 nwaB0 rfl (by kernel_rfl) (by kernel_rfl) (by kernel_rfl) (fun _ _ _ h => h) (by rfl) ?_ (by assumption) ?_
  rotate_left
  · intro w hSw; (try dsimp only at hSw); go_simp; (try with_reducible rfl)
  (try simp only [Act.put, nwaB0, List.setIfInBounds_toArray, List.set_cons_zero, List.set_cons_succ])
  refine tkW (v := ?_) 1 nwaB1 rfl (by kernel_rfl) (by kernel_rfl) (by kernel_rfl) (fun _ _ _ h => h) (by rfl) ?_ (by assumption) ?_
  rotate_left
  · intro w hSw; (try dsimp only at hSw); go_simp; (try with_reducible rfl)
  (try simp only [Act.put, nwaB1, List.setIfInBounds_toArray, List.set_cons_zero, List.set_cons_succ])
  refine tkW (v := ?_) 3 nwaB3 rfl (by kernel_rfl) (by kernel_rfl) (by kernel_rfl) (fun _ _ _ h => h) (by rfl) ?_ (by assumption) ?_
  rotate_left
  · intro w hSw; (try dsimp only at hSw); go_simp; (try with_reducible rfl)
  (try simp only [Act.put, nwaB3, List.setIfInBounds_toArray, List.set_cons_zero, List.set_cons_succ])
  refine tkW (v := ?_) 4 nwaB4 rfl (by kernel_rfl) (by kernel_rfl) (by kernel_rfl) (fun _ _ _ h => h) (by rfl) ?_ (by assumption) ?_
  rotate_left
  · intro w hSw; (try dsimp only at hSw); go_simp; (try with_reducible rfl)
  (try simp only [Act.put, nwaB4, List.setIfInBounds_toArray, List.set_cons_zero, List.set_cons_succ])
  refine tkE 2 nwaB2 rfl (by kernel_rfl) (fun K hK => ?_)
  go_simp
  (refine (LE.out _ (KA.out.trans (by first | with_reducible exact kkv0 | ((repeat (first | with_reducible refine Kp.trans ?_ (Kp.drew _) | with_reducible refine Kp.trans ?_ (Kp.alloc _ _))); with_reducible exact kkv0)))).mono ?_; rintro e wa ⟨rfl, kq1⟩; have kkwa : Kp v0 wa := Kp.trans (show Kp v0 _ from (by first | with_reducible exact kkv0 | ((repeat (first | with_reducible refine Kp.trans ?_ (Kp.drew _) | with_reducible refine Kp.trans ?_ (Kp.alloc _ _))); with_reducible exact kkv0))) kq1; clear kq1)
  (try go_wp2_with fail)
  refine hK.out _ _ ?_ (fun hHeld1 => ?_)
  · (try dsimp only); exact KS.out _ (by first | with_reducible exact kkwa | ((repeat (first | with_reducible refine Kp.trans ?_ (Kp.drew _) | with_reducible refine Kp.trans ?_ (Kp.alloc _ _))); with_reducible exact kkwa))
  clear hK K hHeld0
  (try simp only [Act.put, nwaB2, List.setIfInBounds_toArray, List.set_cons_zero, List.set_cons_succ])
  refine tkE 5 nwaB5 rfl (by kernel_rfl) (fun K hK => ?_)
  go_simp
  (refine (GR.out _ (KA.out.trans (by first | with_reducible exact kkwa | ((repeat (first | with_reducible refine Kp.trans ?_ (Kp.drew _) | with_reducible refine Kp.trans ?_ (Kp.alloc _ _))); with_reducible exact kkwa)))).mono ?_; rintro e wb ⟨rfl, kq1⟩; have kkwb : Kp v0 wb := Kp.trans (show Kp v0 _ from (by first | with_reducible exact kkwa | ((repeat (first | with_reducible refine Kp.trans ?_ (Kp.drew _) | with_reducible refine Kp.trans ?_ (Kp.alloc _ _))); with_reducible exact kkwa))) kq1; clear kq1)
  (try go_wp2_with fail)
  refine hK.out _ _ ?_ (fun hHeld2 => ?_)
  · (try dsimp only); exact KS.out _ (by first | with_reducible exact kkwb | ((repeat (first | with_reducible refine Kp.trans ?_ (Kp.drew _) | with_reducible refine Kp.trans ?_ (Kp.alloc _ _))); with_reducible exact kkwb))
  clear hK K hHeld1
  (try simp only [Act.put, nwaB5, List.setIfInBounds_toArray, List.set_cons_zero, List.set_cons_succ])
  refine tkW (v := ?_) 6 nwaB6 rfl (by kernel_rfl) (by kernel_rfl) (by kernel_rfl) (fun _ _ _ h => h) (by rfl) ?_ (by assumption) ?_
  rotate_left
  · intro w hSw; (try dsimp only at hSw); go_simp; (try with_reducible rfl)
  (try simp only [Act.put, nwaB6, List.setIfInBounds_toArray, List.set_cons_zero, List.set_cons_succ])
  refine tkE 7 nwaB7 rfl (by kernel_rfl) (fun K hK => ?_)
  go_simp
  skip
  (try go_wp2_with fail)
  refine hK.out _ _ ?_ (fun hHeld3 => ?_)
  · (try dsimp only); exact KS.out _ (by first | with_reducible exact kkwb | ((repeat (first | with_reducible refine Kp.trans ?_ (Kp.drew _) | with_reducible refine Kp.trans ?_ (Kp.alloc _ _))); with_reducible exact kkwb))
  clear hK K hHeld2
  (try simp only [Act.put, nwaB7, List.setIfInBounds_toArray, List.set_cons_zero, List.set_cons_succ])
  refine tkW (v := ?_) 8 nwaB8 rfl (by kernel_rfl) (by kernel_rfl) (by kernel_rfl) (fun _ _ _ h => h) (by rfl) ?_ (by assumption) ?_
  rotate_left
  · intro w hSw; (try dsimp only at hSw); go_simp; (try with_reducible rfl)
  (try simp only [Act.put, nwaB8, List.setIfInBounds_toArray, List.set_cons_zero, List.set_cons_succ])
  refine wpAnyH_done (by kernel_rfl) ?_ _
  go_wp2
  go_ret
  exact ⟨_, rfl, one_at _ _ _ _, KA.out.trans (by first | with_reducible exact kkwb | ((repeat (first | with_reducible refine Kp.trans ?_ (Kp.drew _) | with_reducible refine Kp.trans ?_ (Kp.alloc _ _))); with_reducible exact kkwb))⟩
theorem nwAround_any (f : LF) (va vb : Value) (d : Int) (w : World) (h : LeafOk w f va vb) (ok : ∃ F, FOK F ∧ f = lfOf F) (T : Tabs w) :
    Calls Tryz.prog 69 #[leafV f va vb, .int .i64 d] w fun e w' => ∃ v, e = .returned v ∧ RunsAt w' v (arR f d) ∧ Kp w w' := by
  obtain ⟨F, ok, rfl⟩ := ok
  by_cases h0 : emptyF F = true
  · rw [lfOf_none h0] at h ⊢
    exact nwAroundU 0 [] [] va vb d w h T
  · cases F with
    | units k s =>
      rw [lfOf_u1 (by rw [emptyF_u] at h0; simpa using h0)] at h ⊢
      exact nwAroundU k s [] va vb d w h T
    | span s e =>
      have h1 : ¬ s.length = 0 := by rw [emptyF_s] at h0; simpa using h0
      rw [lfOf_s1 h1] at h ⊢
      exact nwAroundS 0 s e va vb d w h (setB_sane ok.1) (setB_sane ok.2.1) (by omega) (span_lg ok (by omega)).1
abbrev nwiA0 : Oper := { dst := some 20, op := Go.Op.load 47 (Go.Operand.tmp 6), type := 47, pos := "narrow.go:20", after := #[], guard := none }
abbrev nwiA1 : Oper := { dst := some 21, op := Go.Op.call { callee := Go.Callee.value (Go.Operand.func 70), args := #[Go.Operand.tmp 20], argTypes := #[47] }, type := 47, pos := "narrow.go:20", after := #[{ on := 0, ground := Go.Ground.data }], guard := none }
abbrev nwiA2 : Oper := { dst := some 22, op := Go.Op.fieldAddr 35 (Go.Operand.tmp 3) 0, type := 0, pos := "narrow.go:20", after := #[], guard := none }
abbrev nwiA3 : Oper := { dst := some 23, op := Go.Op.load 3 (Go.Operand.tmp 22), type := 3, pos := "narrow.go:20", after := #[{ on := 2, ground := Go.Ground.data }], guard := none }
abbrev nwiA4 : Oper := { dst := some 24, op := Go.Op.call { callee := Go.Callee.value (Go.Operand.func 69), args := #[Go.Operand.tmp 21, Go.Operand.tmp 23], argTypes := #[47, 3] }, type := 38, pos := "narrow.go:20", after := #[{ on := 1, ground := Go.Ground.data }, { on := 3, ground := Go.Ground.data }, { on := 1, ground := Go.Ground.chain }], guard := none }
abbrev nwiA5 : Oper := { dst := some 25, op := Go.Op.call { callee := Go.Callee.builtin Go.Builtin.len, args := #[Go.Operand.tmp 24], argTypes := #[38] }, type := 3, pos := "narrow.go:20", after := #[{ on := 4, ground := Go.Ground.data }], guard := none }
abbrev nwiA6 : Oper := { dst := some 26, op := Go.Op.move (Go.Operand.const (Go.Value.int Go.IntKind.i64 0)), type := 3, pos := "narrow.go:20", after := #[], guard := none }
theorem inB_gt {m : List LF} {S E : Int} (h : ¬ S ≤ E) : inB m S E = false := by unfold inB; rw [decide_eq_false h]; rfl
theorem inB_yes {m : List LF} {S E : Int} (h : S ≤ E) {k : Nat} (hk : k < m.length) (g : insB (lat m k) S E = true) : inB m S E = true := by
  unfold inB
  rw [decide_eq_true h, Bool.true_and, List.any_eq_true]
  exact ⟨_, lat_mem hk, g⟩
theorem inB_no {m : List LF} {S E : Int} (g : ∀ j, j < m.length → insB (lat m j) S E = false) : inB m S E = false := by
  unfold inB
  rw [show (m.any fun f => insB f S E) = false from List.any_eq_false.2 fun f hf => by
    obtain ⟨j, hj, e⟩ := List.mem_iff_getElem.1 hf
    have := g j hj
    unfold lat at this
    rw [List.getD_eq_getElem?_getD, List.getElem?_eq_getElem hj] at this
    simp only [Option.getD_some, e] at this
    simp [this], Bool.and_false]
/-- what is asked of a run -/
def askR (S E : Int) (r : R) : Bool := decide (r.1 ≤ S) && decide (E ≤ r.2)
theorem anyR_no {L : List R} {S E : Int} (g : ∀ j, j < L.length → askR S E (at_ L j) = false) : (L.any fun r => decide (r.1 ≤ S) && decide (E ≤ r.2)) = false :=
  List.any_eq_false.2 fun r hr => by
    obtain ⟨j, hj, e⟩ := List.mem_iff_getElem.1 hr
    have := g j hj
    unfold at_ at this
    rw [List.getD_eq_getElem?_getD, List.getElem?_eq_getElem hj] at this
    simp only [Option.getD_some, e] at this
    unfold askR at this
    simp [this]
theorem anyR_yes {L : List R} {S E : Int} {j : Nat} (hj : j < L.length) (g : askR S E (at_ L j) = true) : (L.any fun r => decide (r.1 ≤ S) && decide (E ≤ r.2)) = true :=
  List.any_eq_true.2 ⟨_, at_mem hj, g⟩
set_option maxHeartbeats 16000000 in
set_option maxRecDepth 100000 in
theorem nwInside_any (v : Value) (m : List LF) (S E : Int) (w : World) (hv : LeavesAt w v m) (hl : LsOk m) (T : Tabs w) (b1 : -9223372036854775808 ≤ S) (b2 : S ≤ 9223372036854775807) (b3 : -9223372036854775808 ≤ E) (b4 : E ≤ 9223372036854775807) :
    Calls Tryz.prog 30 #[v, .agg #[.int .i64 S, .int .i64 E]] w fun e w' => e = .returned (.bool (inB m S E)) ∧ Kp w w' := by
  have hm := hv.len
  unfold maxLen at hm
  obtain ⟨ad, cp, rfl⟩ := hv.slice
  have HV := Lib.hid hv
  have HL := Lib.hid hl
  have TT := Lib.hid T
  have NO := Lib.hid (fun h => inB_no (m := m) (S := S) (E := E) h)
  clear hv hl T
  by_cases hST : S ≤ E
  rotate_left
  · have e0 := inB_gt (m := m) hST
    have q0 : decide (S > E) = true := decide_eq_true (by omega)
    have q1 : decide (E < S) = true := decide_eq_true (by omega)
    rw [e0]
    clear NO hST
    obtain ⟨W0, hVp⟩ : ∃ x, x = w.alloc (.cells #[.int .i64 S, .int .i64 E] 35) := ⟨_, rfl⟩
    have kap : Kp w W0 := by rw [hVp]; exact Kp.alloc _ _
    have gqp0 : W0.heap[w.heap.size]? = some (.cells #[.int .i64 S, .int .i64 E] 35 (0, 0)) := by rw [hVp]; exact heap_at _ _ _ (by first | rfl | simp)
    have KSp := Lib.hid (fun w' (kq : Kp W0 w') => show w'.cell? ⟨w.heap.size, 0, none⟩ = some (.int .i64 S) ∧ w'.cell? ⟨w.heap.size, 1, none⟩ = some (.int .i64 E) ∧ Kp W0 w' from ⟨(row2 (heap_block kq gqp0)).1, (row2 (heap_block kq gqp0)).2, kq⟩)
    have GQp0 := Lib.hid gqp0
    have HVp := Lib.hid hVp
    have K0 := Lib.hid kap
    clear hVp kap gqp0
    have kkW0 : Kp W0 W0 := Kp.refl _
    go_enter Tryz.func30, Tryz.ntmps30
    go_wp2
    go_ret
    exact ⟨rfl, by rw [← HVp.out]; exact K0.out⟩
  have q0 : decide (S > E) = false := decide_eq_false (by omega)
  have q1 : decide (E < S) = false := decide_eq_false (by omega)
  have YES := Lib.hid (fun k (h : k < m.length) g => inB_yes hST h g)
  generalize inB m S E = r at *
  clear hST
  obtain ⟨W0, hVp⟩ : ∃ x, x = w.alloc (.cells #[.int .i64 S, .int .i64 E] 35) := ⟨_, rfl⟩
  have kap : Kp w W0 := by rw [hVp]; exact Kp.alloc _ _
  have gqp0 : W0.heap[w.heap.size]? = some (.cells #[.int .i64 S, .int .i64 E] 35 (0, 0)) := by rw [hVp]; exact heap_at _ _ _ (by first | rfl | simp)
  have KSp := Lib.hid (fun w' (kq : Kp W0 w') => show w'.cell? ⟨w.heap.size, 0, none⟩ = some (.int .i64 S) ∧ w'.cell? ⟨w.heap.size, 1, none⟩ = some (.int .i64 E) ∧ Kp W0 w' from ⟨(row2 (heap_block kq gqp0)).1, (row2 (heap_block kq gqp0)).2, kq⟩)
  have GQp0 := Lib.hid gqp0
  have HVp := Lib.hid hVp
  have K0 := Lib.hid kap
  clear hVp kap gqp0
  have kkW0 : Kp W0 W0 := Kp.refl _
  go_enter Tryz.func30, Tryz.ntmps30
  go_wp2_with fail
  rw [← HVp.out]
  go_loopw [16] (fun i wr => ∃ k : Nat, k ≤ m.length ∧ i = .int .i64 k ∧ Hid (∀ j, j < k → insB (lat m j) S E = false) ∧ Hid (Kp W0 wr)) (fun i _ => m.length - (intOf i).toNat)
  case atStart => exact ⟨0, Nat.zero_le _, rfl, Lib.hid (fun i h => by omega), Lib.hid (Kp.refl _)⟩
  case round =>
    obtain ⟨k, hk, rfl, FA, J⟩ := hrel
    by_cases hlt : k < m.length
    · have q2 : decide ((k : Int) < (m.length : Int)) = true := decide_eq_true (by omega)
      have q3 : decide (k < m.length) = true := decide_eq_true hlt
      rcases HV.out.kp (K0.out.trans J.out) with ⟨_, _, _, e⟩ | ⟨b0, off, cap, ev, hc, hmx, hx⟩
      · rw [e] at hlt; simp at hlt
      cases ev
      obtain ⟨va, vb, d0, d1, d2, d3, ra, rb⟩ := hx k hlt
      have LOK := HL.out _ (lat_mem hlt)
      obtain ⟨f, hf⟩ : ∃ f, lat m k = f := ⟨_, rfl⟩
      rw [hf] at d0 d1 ra rb
      (try rw [hf] at LOK)
      obtain ⟨sp, u, a, b⟩ := f
      simp only at d0 d1 ra rb
      (try simp only at LOK)
      obtain ⟨aa, ca, rfl⟩ := ra.slice
      obtain ⟨ab, cb, rfl⟩ := rb.slice
      have HF := Lib.hid hf
      have z1 : (k : Int) < (m.length : Int) := by omega
      have z2 : (0 : Int) ≤ (k : Int) := by omega
      clear hx hc hmx hf
      have FO : LeafOk wr ⟨sp, u, a, b⟩ _ _ := ⟨ra, rb, LOK.1, LOK.2.1, LOK.2.2.1, LOK.2.2.2⟩
      have TD := Lib.hid (fun w1 (kk : Kp wr w1) => leafTidy_any ⟨sp, u, a, b⟩ _ _ w1 (FO.kp kk) (TT.out.kp (K0.out.trans (J.out.trans kk))))
      have AR := Lib.hid (fun va' vb' w1 (kk : Kp wr w1) (h : LeafOk w1 (lfOf (famR ⟨sp, u, a, b⟩)) va' vb') => nwAround_any _ va' vb' S w1 h ⟨_, famR_ok _, rfl⟩ (TT.out.kp (K0.out.trans (J.out.trans kk))))
      have IB := Lib.hid (show insB (lat m k) S E = ((arR (lfOf (famR ⟨sp, u, a, b⟩)) S).any fun r => decide (r.1 ≤ S) && decide (E ≤ r.2)) by rw [HF.out]; rfl)
      rw [show leafV ⟨sp, u, a, b⟩ (.slice aa a.length ca) (.slice ab b.length cb) = .agg #[.bool sp, .int .i64 u, .slice aa a.length ca, .slice ab b.length cb] from rfl] at TD
      generalize arR (lfOf (famR ⟨sp, u, a, b⟩)) S = L at *
      generalize lfOf (famR ⟨sp, u, a, b⟩) = g at *
      have kkW0V : Kp W0 (wr.alloc (.cells #[.bool sp, .int .i64 u, .slice aa a.length ca, .slice ab b.length cb] 47)) := J.out.trans (Kp.alloc _ _)
      clear ra rb FO LOK HF
      obtain ⟨V, hVv⟩ : ∃ x, x = wr.alloc (.cells #[.bool sp, .int .i64 u, .slice aa a.length ca, .slice ab b.length cb] 47) := ⟨_, rfl⟩
      have kav : Kp wr V := by rw [hVv]; exact Kp.alloc _ _
      have gqv0 : V.heap[wr.heap.size]? = some (.cells #[.bool sp, .int .i64 u, .slice aa a.length ca, .slice ab b.length cb] 47 (0, 0)) := by rw [hVv]; exact heap_at _ _ _ (by first | rfl | simp)
      rw [← hVv] at kkW0V
      have KSv := Lib.hid (fun w' (kq : Kp V w') => show w'.cell? ⟨wr.heap.size, 0, none⟩ = some (.bool sp) ∧ w'.cell? ⟨wr.heap.size, 1, none⟩ = some (.int .i64 u) ∧ w'.cell? ⟨wr.heap.size, 2, none⟩ = some (.slice aa a.length ca) ∧ w'.cell? ⟨wr.heap.size, 3, none⟩ = some (.slice ab b.length cb) ∧ w'.cell? ⟨w.heap.size, 0, none⟩ = some (.int .i64 S) ∧ w'.cell? ⟨w.heap.size, 1, none⟩ = some (.int .i64 E) ∧ Kp V w' from ⟨(row4 (heap_block kq gqv0)).1, (row4 (heap_block kq gqv0)).2.1, (row4 (heap_block kq gqv0)).2.2.1, (row4 (heap_block kq gqv0)).2.2.2, cell_up kq (KSp.out V kkW0V).1, cell_up kq (KSp.out V kkW0V).2.1, kq⟩)
      have GQv0 := Lib.hid gqv0
      have HVv := Lib.hid hVv
      have KV := Lib.hid kav
      clear hVv kav gqv0
      have kkV : Kp V V := Kp.refl _
      go_upto_region 6 with fail
      rw [← HVv.out]
      clear HVv d0 d1 d2 d3
      refine wp_region_held_drew (S := fun w' => w'.cell? ⟨wr.heap.size, 0, none⟩ = some (.bool sp) ∧ w'.cell? ⟨wr.heap.size, 1, none⟩ = some (.int .i64 u) ∧ w'.cell? ⟨wr.heap.size, 2, none⟩ = some (.slice aa a.length ca) ∧ w'.cell? ⟨wr.heap.size, 3, none⟩ = some (.slice ab b.length cb) ∧ w'.cell? ⟨w.heap.size, 0, none⟩ = some (.int .i64 S) ∧ w'.cell? ⟨w.heap.size, 1, none⟩ = some (.int .i64 E) ∧ Kp V w') (by kernel_rfl) ?_ (fun hHeld0 => ?_)
      · (try dsimp only); exact KSv.out _ (by first | with_reducible exact kkV | ((repeat (first | with_reducible refine Kp.trans ?_ (Kp.drew _) | with_reducible refine Kp.trans ?_ (Kp.alloc _ _))); with_reducible exact kkV))
      refine tkW (v := ?_) 0 nwiA0 rfl (by kernel_rfl) (by kernel_rfl) (by kernel_rfl) (fun _ _ _ h => h) (by rfl) ?_ (by assumption) ?_
      rotate_left
      · intro w hSw; (try dsimp only at hSw); go_simp; (try with_reducible rfl)
      (try simp only [Act.put, nwiA0, List.setIfInBounds_toArray, List.set_cons_zero, List.set_cons_succ])
      refine tkW (v := ?_) 2 nwiA2 rfl (by kernel_rfl) (by kernel_rfl) (by kernel_rfl) (fun _ _ _ h => h) (by rfl) ?_ (by assumption) ?_
      rotate_left
      · intro w hSw; (try dsimp only at hSw); go_simp; (try with_reducible rfl)
      (try simp only [Act.put, nwiA2, List.setIfInBounds_toArray, List.set_cons_zero, List.set_cons_succ])
      refine tkW (v := ?_) 3 nwiA3 rfl (by kernel_rfl) (by kernel_rfl) (by kernel_rfl) (fun _ _ _ h => h) (by rfl) ?_ (by assumption) ?_
      rotate_left
      · intro w hSw; (try dsimp only at hSw); go_simp; (try with_reducible rfl)
      (try simp only [Act.put, nwiA3, List.setIfInBounds_toArray, List.set_cons_zero, List.set_cons_succ])
      refine tkW (v := ?_) 6 nwiA6 rfl (by kernel_rfl) (by kernel_rfl) (by kernel_rfl) (fun _ _ _ h => h) (by rfl) ?_ (by assumption) ?_
      rotate_left
      · intro w hSw; (try dsimp only at hSw); go_simp; (try with_reducible rfl)
      (try simp only [Act.put, nwiA6, List.setIfInBounds_toArray, List.set_cons_zero, List.set_cons_succ])
      refine tkE 1 nwiA1 rfl (by kernel_rfl) (fun K hK => ?_)
      go_simp
      (refine (TD.out _ (KV.out.trans (by first | with_reducible exact kkV | ((repeat (first | with_reducible refine Kp.trans ?_ (Kp.drew _) | with_reducible refine Kp.trans ?_ (Kp.alloc _ _))); with_reducible exact kkV)))).mono ?_; rintro e wa ⟨va', vb', rfl, ok', kq1⟩; have kkwa : Kp V wa := Kp.trans (show Kp V _ from (by first | with_reducible exact kkV | ((repeat (first | with_reducible refine Kp.trans ?_ (Kp.drew _) | with_reducible refine Kp.trans ?_ (Kp.alloc _ _))); with_reducible exact kkV))) kq1; have OK' := Lib.hid ok'; clear ok'; clear kq1)
      (try go_wp2_with fail)
      refine hK.out _ _ ?_ (fun hHeld1 => ?_)
      · (try dsimp only); exact KSv.out _ (by first | with_reducible exact kkwa | ((repeat (first | with_reducible refine Kp.trans ?_ (Kp.drew _) | with_reducible refine Kp.trans ?_ (Kp.alloc _ _))); with_reducible exact kkwa))
      clear hK K hHeld0
      (try simp only [Act.put, nwiA1, List.setIfInBounds_toArray, List.set_cons_zero, List.set_cons_succ])
      refine tkE 4 nwiA4 rfl (by kernel_rfl) (fun K hK => ?_)
      go_simp
      (refine (AR.out _ _ _ (KV.out.trans (by first | with_reducible exact kkwa | ((repeat (first | with_reducible refine Kp.trans ?_ (Kp.drew _) | with_reducible refine Kp.trans ?_ (Kp.alloc _ _))); with_reducible exact kkwa))) (OK'.out.kp (by first | with_reducible exact (Kp.refl wa) | ((repeat (first | with_reducible refine Kp.trans ?_ (Kp.drew _) | with_reducible refine Kp.trans ?_ (Kp.alloc _ _))); with_reducible exact (Kp.refl wa))))).mono ?_; rintro e wb ⟨v1, rfl, o1, kq1⟩; have kkwb : Kp V wb := Kp.trans (show Kp V _ from (by first | with_reducible exact kkwa | ((repeat (first | with_reducible refine Kp.trans ?_ (Kp.drew _) | with_reducible refine Kp.trans ?_ (Kp.alloc _ _))); with_reducible exact kkwa))) kq1; obtain ⟨a1, l1, rfl⟩ := o1.slice; have O1 := Lib.hid o1; have nL := o1.len; clear o1; clear kq1)
      (try go_wp2_with fail)
      refine hK.out _ _ ?_ (fun hHeld2 => ?_)
      · (try dsimp only); exact KSv.out _ (by first | with_reducible exact kkwb | ((repeat (first | with_reducible refine Kp.trans ?_ (Kp.drew _) | with_reducible refine Kp.trans ?_ (Kp.alloc _ _))); with_reducible exact kkwb))
      clear hK K hHeld1
      (try simp only [Act.put, nwiA4, List.setIfInBounds_toArray, List.set_cons_zero, List.set_cons_succ])
      refine tkW (v := ?_) 5 nwiA5 rfl (by kernel_rfl) (by kernel_rfl) (by kernel_rfl) (fun _ _ _ h => h) (by rfl) ?_ (by assumption) ?_
      rotate_left
      · intro w hSw; (try dsimp only at hSw); go_simp; (try with_reducible rfl)
      (try simp only [Act.put, nwiA5, List.setIfInBounds_toArray, List.set_cons_zero, List.set_cons_succ])
      refine wpAnyH_done (by kernel_rfl) ?_ _
      unfold maxLen at nL
      have J2 := Lib.hid (kkW0V.trans kkwb)
      have HP := Lib.hid (fun w' (kq : Kp wb w') => (show w'.cell? ⟨w.heap.size, 0, none⟩ = some (.int .i64 S) ∧ w'.cell? ⟨w.heap.size, 1, none⟩ = some (.int .i64 E) from ⟨(KSp.out _ (J2.out.trans kq)).1, (KSp.out _ (J2.out.trans kq)).2.1⟩))
      obtain ⟨wi, hwi⟩ : ∃ x, x = wb := ⟨_, rfl⟩
      subst hwi
      go_wp2_with fail
      go_loopw [26] (fun i wr2 => ∃ j : Nat, j ≤ L.length ∧ i = .int .i64 j ∧ Hid (∀ i, i < j → askR S E (at_ L i) = false) ∧ Hid (Kp wi wr2)) (fun i _ => L.length - (intOf i).toNat)
      case atStart => exact ⟨0, Nat.zero_le _, rfl, Lib.hid (fun i h => by omega), Lib.hid (by first | with_reducible exact (Kp.refl wi) | ((repeat (first | with_reducible refine Kp.trans ?_ (Kp.drew _) | with_reducible refine Kp.trans ?_ (Kp.alloc _ _))); with_reducible exact (Kp.refl wi)))⟩
      case round =>
        obtain ⟨j, hj, rfl, FB, J3⟩ := hrel
        by_cases hlt2 : j < L.length
        · have q4 : decide ((j : Int) < (L.length : Int)) = true := decide_eq_true (by omega)
          have q5 : decide (j < L.length) = true := decide_eq_true hlt2
          rcases (O1.out.kp J3.out) with ⟨_, _, _, e⟩ | ⟨b2, off2, cap2, ev, hc2, hm2, hx2⟩
          · rw [e] at hlt2; simp at hlt2
          obtain ⟨r1, r2⟩ := hx2 j hlt2
          cases ev
          obtain ⟨lo, elo⟩ : ∃ x, (at_ L j).1 = x := ⟨_, rfl⟩
          obtain ⟨hi', ehi⟩ : ∃ x, (at_ L j).2 = x := ⟨_, rfl⟩
          rw [elo] at r1
          rw [ehi] at r2
          have z3 : (0 : Int) ≤ (j : Int) := by omega
          have z4 : (j : Int) < L.length := by omega
          have AK := Lib.hid (show askR S E (at_ L j) = (decide (lo ≤ S) && decide (E ≤ hi')) by unfold askR; rw [elo, ehi])
          have AY := Lib.hid (fun g => anyR_yes (S := S) (E := E) hlt2 g)
          have kkW2 : Kp wi (wr.alloc (.cells #[.int .i64 lo, .int .i64 hi'] 53)) := J3.out.trans (Kp.alloc _ _)
          clear hx2 hc2 hm2 elo ehi
          obtain ⟨V2, hVr⟩ : ∃ x, x = wr.alloc (.cells #[.int .i64 lo, .int .i64 hi'] 53) := ⟨_, rfl⟩
          have kar : Kp wr V2 := by rw [hVr]; exact Kp.alloc _ _
          have gqr0 : V2.heap[wr.heap.size]? = some (.cells #[.int .i64 lo, .int .i64 hi'] 53 (0, 0)) := by rw [hVr]; exact heap_at _ _ _ (by first | rfl | simp)
          rw [← hVr] at kkW2
          have KSr := Lib.hid (fun w' (kq : Kp V2 w') => show w'.cell? ⟨wr.heap.size, 0, none⟩ = some (.int .i64 lo) ∧ w'.cell? ⟨wr.heap.size, 1, none⟩ = some (.int .i64 hi') ∧ w'.cell? ⟨w.heap.size, 0, none⟩ = some (.int .i64 S) ∧ w'.cell? ⟨w.heap.size, 1, none⟩ = some (.int .i64 E) ∧ Kp V2 w' from ⟨(row2 (heap_block kq gqr0)).1, (row2 (heap_block kq gqr0)).2, cell_up kq (HP.out V2 kkW2).1, cell_up kq (HP.out V2 kkW2).2, kq⟩)
          have GQr0 := Lib.hid gqr0
          have HVr := Lib.hid hVr
          have KR := Lib.hid kar
          clear hVr kar gqr0
          have kkV2 : Kp V2 V2 := Kp.refl _
          obtain ⟨xr0, xr1, xr2, xr3, _⟩ := KSr.out _ kkV2
          go_upto_region 9 with fail
          rw [← HVr.out]
          clear HVr r1 r2
          rcases Bool.eq_false_or_eq_true (decide (lo ≤ S)) with u1 | u1
          · rcases Bool.eq_false_or_eq_true (decide (E ≤ hi')) with u2 | u2
            · have er : r = true := YES.out k hlt (by rw [IB.out]; exact AY.out (by rw [AK.out, u1, u2]; rfl))
              subst er
              go_wp2
              go_ret
              exact ⟨rfl, K0.out.trans (J2.out.trans (J3.out.trans (KR.out.trans (by first | with_reducible exact (Kp.refl V2) | ((repeat (first | with_reducible refine Kp.trans ?_ (Kp.drew _) | with_reducible refine Kp.trans ?_ (Kp.alloc _ _))); with_reducible exact (Kp.refl V2))))))⟩
            · have e2 := Lib.hid (show askR S E (at_ L j) = false by rw [AK.out, u1, u2]; rfl)
              go_wp2
              go_roundw
              case rel => exact ⟨j + 1, by omega, by go_num, Lib.hid (fun i hi => by rcases Nat.lt_succ_iff_lt_or_eq.1 hi with h | h; exact FB.out i h; rw [h]; exact e2.out), Lib.hid (J3.out.trans (KR.out.trans (by first | with_reducible exact (Kp.refl V2) | ((repeat (first | with_reducible refine Kp.trans ?_ (Kp.drew _) | with_reducible refine Kp.trans ?_ (Kp.alloc _ _))); with_reducible exact (Kp.refl V2)))))⟩
              case measure => simp [intOf]; omega
          · have e2 := Lib.hid (show askR S E (at_ L j) = false by rw [AK.out, u1]; rfl)
            go_wp2
            go_roundw
            case rel => exact ⟨j + 1, by omega, by go_num, Lib.hid (fun i hi => by rcases Nat.lt_succ_iff_lt_or_eq.1 hi with h | h; exact FB.out i h; rw [h]; exact e2.out), Lib.hid (J3.out.trans (KR.out.trans (by first | with_reducible exact (Kp.refl V2) | ((repeat (first | with_reducible refine Kp.trans ?_ (Kp.drew _) | with_reducible refine Kp.trans ?_ (Kp.alloc _ _))); with_reducible exact (Kp.refl V2)))))⟩
            case measure => simp [intOf]; omega
        · have q4 : decide ((j : Int) < (L.length : Int)) = false := decide_eq_false (by omega)
          have q5 : decide (j < L.length) = false := decide_eq_false (by omega)
          have ej : j = L.length := by omega
          have e3 := Lib.hid (show insB (lat m k) S E = false by rw [IB.out]; exact anyR_no (fun i hi => FB.out i (by omega)))
          have Q2 := Lib.hid q2
          clear q2 q3
          go_wp2
          go_roundw
          case rel => exact ⟨k + 1, by omega, by go_num, Lib.hid (fun i hi => by rcases Nat.lt_succ_iff_lt_or_eq.1 hi with h | h; exact FA.out i h; rw [h]; exact e3.out), Lib.hid (J2.out.trans (by first | with_reducible exact J3.out | ((repeat (first | with_reducible refine Kp.trans ?_ (Kp.drew _) | with_reducible refine Kp.trans ?_ (Kp.alloc _ _))); with_reducible exact J3.out)))⟩
          case measure => simp [intOf]; omega
    · have q2 : decide ((k : Int) < (m.length : Int)) = false := decide_eq_false (by omega)
      have q3 : decide (k < m.length) = false := decide_eq_false (by omega)
      have er : r = false := NO.out (fun j hj => FA.out j (by omega))
      subst er
      go_wp2
      go_ret
      exact ⟨rfl, K0.out.trans J.out⟩
end Go.Proofs.YtjdnejglapnbbaaGreatDoor
