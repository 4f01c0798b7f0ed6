import Derived.Test.YtjdnejglapnbbaaGreatDoorBx
set_option maxHeartbeats 16000000
set_option maxRecDepth 100000
namespace Go.Proofs.YtjdnejglapnbbaaGreatDoor
open Go.RowKit
set_option linter.unusedVariables false
set_option linter.unusedSimpArgs false
theorem from_any (x : Int) (w : World) : Calls Tryz.prog 275 #[.int .i64 x] w fun e w' => e = .returned (.agg #[.int .i64 x, .int .i64 3652424]) ∧ Kp w w' := by
 go_enter Tryz.func275, Tryz.ntmps275
 go_wp2
 refine bodyPost_ret (v := .agg #[.int .i64 x, .int .i64 3652424]) (by simp [results, Tryz.results275, go_sem]) rfl ⟨rfl, Kp.alloc _ _⟩
theorem just_any (x : Int) (w : World) : Calls Tryz.prog 277 #[.int .i64 x] w fun e w' => e = .returned (.agg #[.int .i64 x, .int .i64 x]) ∧ Kp w w' := by
 go_enter Tryz.func277, Tryz.ntmps277
 go_wp2
 refine bodyPost_ret (v := .agg #[.int .i64 x, .int .i64 x]) (by simp [results, Tryz.results277, go_sem]) rfl ⟨rfl, Kp.alloc _ _⟩
theorem upTo_any (x : Int) (w : World) : Calls Tryz.prog 278 #[.int .i64 x] w fun e w' => e = .returned (.agg #[.int .i64 0, .int .i64 x]) ∧ Kp w w' := by
 go_enter Tryz.func278, Tryz.ntmps278
 go_wp2
 refine bodyPost_ret (v := .agg #[.int .i64 0, .int .i64 x]) (by simp [results, Tryz.results278, go_sem]) rfl ⟨rfl, Kp.alloc _ _⟩
theorem anyDay_any (w : World) : Calls Tryz.prog 276 #[] w fun e w' => e = .returned (.agg #[.int .i64 0, .int .i64 3652424]) ∧ Kp w w' := by
 go_enter Tryz.func276, Tryz.ntmps276
 go_wp2
 refine bodyPost_ret (v := .agg #[.int .i64 0, .int .i64 3652424]) (by simp [results, Tryz.results276, go_sem]) rfl ⟨rfl, Kp.alloc _ _⟩
theorem before_way (S T : Int) (w : World) (h1 : 0 ≤ S) (h2 : S ≤ 4000000) (h3 : 0 ≤ T) (h4 : T ≤ 4000000) : Calls Tryz.prog 219 #[.agg #[.int .i64 S, .int .i64 T]] w fun e w' => e = .returned (.agg #[.int .i64 (T + 2), .int .i64 (3652424), .int .i64 (0), .int .i64 (3652424)]) ∧ Kp w w' := by
 obtain ⟨W0, hW⟩ : ∃ x, x = (w.alloc (.cells #[.int .i64 S, .int .i64 T] 172)).alloc (.cells #[.int .i64 0, .int .i64 0, .int .i64 0, .int .i64 0] 171) := ⟨_, rfl⟩
 have k0 : Kp w W0 := by rw [hW]; exact (Kp.alloc _ _).trans (Kp.alloc _ _)
 have gA : W0.heap[w.heap.size]? = some (.cells #[.int .i64 S, .int .i64 T] 172 (0, 0)) := by rw [hW]; exact heap_block (Kp.alloc _ _) (heap_at _ _ _ rfl)
 have gB : W0.heap[w.heap.size + 1]? = some (.cells #[.int .i64 0, .int .i64 0, .int .i64 0, .int .i64 0] 171 (0, 0)) := by rw [hW]; exact heap_at _ _ _ (by simp)
 have hz : W0.heap.size = w.heap.size + 2 := by rw [hW]; simp
 have K0 := Lib.hid k0
 have GB := Lib.hid (fun w1 (q : Kp W0 w1) => heap_block q gB)
 have KS := Lib.hid (fun w' (kq : Kp W0 w') => show w'.cell? ⟨w.heap.size, 0, none⟩ = some (.int .i64 S) ∧ w'.cell? ⟨w.heap.size, 1, none⟩ = some (.int .i64 T) ∧ Kp W0 w' from ⟨(row2 (heap_block kq gA)).1, (row2 (heap_block kq gA)).2, kq⟩)
 have k00 : Kp W0 W0 := Kp.refl _
 have wS1 : IntKind.i64.wrap (S + 1) = S + 1 := by rw [IntKind.wrap_i64]; omega
 have wS2 : IntKind.i64.wrap (S - 1) = S - 1 := by rw [IntKind.wrap_i64]; omega
 have wS3 : IntKind.i64.wrap (S - 2) = S - 2 := by rw [IntKind.wrap_i64]; omega
 have wT1 : IntKind.i64.wrap (T + 1) = T + 1 := by rw [IntKind.wrap_i64]; omega
 have wT2 : IntKind.i64.wrap (T - 1) = T - 1 := by rw [IntKind.wrap_i64]; omega
 have wT3 : IntKind.i64.wrap (T + 2) = T + 2 := by rw [IntKind.wrap_i64]; omega
 have HW := Lib.hid hW
 clear hW gA gB k0
 go_enter Tryz.func219, Tryz.ntmps219
 go_upto_region 1 with fail
 rw [← HW.out]
 obtain ⟨c0, c1, -⟩ := KS.out _ k00
 go_wp2_with fail
 refine (from_any _ _).mono ?_
 rintro e w1 ⟨rfl, kq1⟩
 have kw1 : Kp W0 w1 := Kp.trans k00 kq1
 clear kq1
 clear c0 c1
 obtain ⟨c0, c1, -⟩ := KS.out _ kw1
 go_wp2_with fail
 refine (anyDay_any _).mono ?_
 rintro e w2 ⟨rfl, kq1⟩
 have kw2 : Kp W0 w2 := Kp.trans kw1 kq1
 clear kq1
 clear c0 c1
 obtain ⟨c0, c1, -⟩ := KS.out _ kw2
 have gC := GB.out _ kw2
 obtain ⟨y0, y1, y2, y3⟩ := row4 gC
 have f0 : w2.frozen? ⟨w.heap.size + 1, 0, none⟩ = false := by simp [World.frozen?, gC]
 have f1 : w2.frozen? ⟨w.heap.size + 1, 1, none⟩ = false := by simp [World.frozen?, gC]
 have f2 : w2.frozen? ⟨w.heap.size + 1, 2, none⟩ = false := by simp [World.frozen?, gC]
 have f3 : w2.frozen? ⟨w.heap.size + 1, 3, none⟩ = false := by simp [World.frozen?, gC]
 clear gC
 obtain ⟨F, hF⟩ : ∃ X, X = w2.setCells (w.heap.size + 1) 0 [.int .i64 (T + 2), .int .i64 (3652424), .int .i64 (0), .int .i64 (3652424)] := ⟨_, rfl⟩
 have gF := bx_heap [.int .i64 (T + 2), .int .i64 (3652424), .int .i64 (0), .int .i64 (3652424)] 0 (GB.out _ kw2)
 rw [← hF] at gF
 have hs4 : bxA #[.int .i64 0, .int .i64 0, .int .i64 0, .int .i64 0] 0 [.int .i64 (T + 2), .int .i64 (3652424), .int .i64 (0), .int .i64 (3652424)] = #[.int .i64 (T + 2), .int .i64 (3652424), .int .i64 (0), .int .i64 (3652424)] := by kernel_rfl
 rw [hs4] at gF
 have KF := Lib.hid (show Kp w F by rw [hF]; exact bx_kp (by omega) _ 0 (K0.out.trans kw2))
 have TH := Lib.hid (bx_there (GB.out _ kw2) 0 4 (by decide))
 obtain ⟨x0, x1, x2, x3⟩ := row4 gF
 have HF := Lib.hid hF
 clear gF hs4 hF
 go_wp2
 refine (?_ : bodyPost _ _ _ _ _ (w2.setCells (w.heap.size + 1) 0 [.int .i64 (T + 2), .int .i64 (3652424), .int .i64 (0), .int .i64 (3652424)]))
 rw [← HF.out]
 refine bodyPost_ret (v := .agg #[.int .i64 (T + 2), .int .i64 (3652424), .int .i64 (0), .int .i64 (3652424)]) (by simp [results, Tryz.results219, go_sem, x0, x1, x2, x3]) rfl ⟨rfl, KF.out⟩
theorem meets_way (S T : Int) (w : World) (h1 : 0 ≤ S) (h2 : S ≤ 4000000) (h3 : 0 ≤ T) (h4 : T ≤ 4000000) : Calls Tryz.prog 220 #[.agg #[.int .i64 S, .int .i64 T]] w fun e w' => e = .returned (.agg #[.int .i64 (T + 1), .int .i64 (T + 1), .int .i64 (0), .int .i64 (3652424)]) ∧ Kp w w' := by
 obtain ⟨W0, hW⟩ : ∃ x, x = (w.alloc (.cells #[.int .i64 S, .int .i64 T] 172)).alloc (.cells #[.int .i64 0, .int .i64 0, .int .i64 0, .int .i64 0] 171) := ⟨_, rfl⟩
 have k0 : Kp w W0 := by rw [hW]; exact (Kp.alloc _ _).trans (Kp.alloc _ _)
 have gA : W0.heap[w.heap.size]? = some (.cells #[.int .i64 S, .int .i64 T] 172 (0, 0)) := by rw [hW]; exact heap_block (Kp.alloc _ _) (heap_at _ _ _ rfl)
 have gB : W0.heap[w.heap.size + 1]? = some (.cells #[.int .i64 0, .int .i64 0, .int .i64 0, .int .i64 0] 171 (0, 0)) := by rw [hW]; exact heap_at _ _ _ (by simp)
 have hz : W0.heap.size = w.heap.size + 2 := by rw [hW]; simp
 have K0 := Lib.hid k0
 have GB := Lib.hid (fun w1 (q : Kp W0 w1) => heap_block q gB)
 have KS := Lib.hid (fun w' (kq : Kp W0 w') => show w'.cell? ⟨w.heap.size, 0, none⟩ = some (.int .i64 S) ∧ w'.cell? ⟨w.heap.size, 1, none⟩ = some (.int .i64 T) ∧ Kp W0 w' from ⟨(row2 (heap_block kq gA)).1, (row2 (heap_block kq gA)).2, kq⟩)
 have k00 : Kp W0 W0 := Kp.refl _
 have wS1 : IntKind.i64.wrap (S + 1) = S + 1 := by rw [IntKind.wrap_i64]; omega
 have wS2 : IntKind.i64.wrap (S - 1) = S - 1 := by rw [IntKind.wrap_i64]; omega
 have wS3 : IntKind.i64.wrap (S - 2) = S - 2 := by rw [IntKind.wrap_i64]; omega
 have wT1 : IntKind.i64.wrap (T + 1) = T + 1 := by rw [IntKind.wrap_i64]; omega
 have wT2 : IntKind.i64.wrap (T - 1) = T - 1 := by rw [IntKind.wrap_i64]; omega
 have wT3 : IntKind.i64.wrap (T + 2) = T + 2 := by rw [IntKind.wrap_i64]; omega
 have HW := Lib.hid hW
 clear hW gA gB k0
 go_enter Tryz.func220, Tryz.ntmps220
 go_upto_region 1 with fail
 rw [← HW.out]
 obtain ⟨c0, c1, -⟩ := KS.out _ k00
 go_wp2_with fail
 refine (just_any _ _).mono ?_
 rintro e w1 ⟨rfl, kq1⟩
 have kw1 : Kp W0 w1 := Kp.trans k00 kq1
 clear kq1
 clear c0 c1
 obtain ⟨c0, c1, -⟩ := KS.out _ kw1
 go_wp2_with fail
 refine (anyDay_any _).mono ?_
 rintro e w2 ⟨rfl, kq1⟩
 have kw2 : Kp W0 w2 := Kp.trans kw1 kq1
 clear kq1
 clear c0 c1
 obtain ⟨c0, c1, -⟩ := KS.out _ kw2
 have gC := GB.out _ kw2
 obtain ⟨y0, y1, y2, y3⟩ := row4 gC
 have f0 : w2.frozen? ⟨w.heap.size + 1, 0, none⟩ = false := by simp [World.frozen?, gC]
 have f1 : w2.frozen? ⟨w.heap.size + 1, 1, none⟩ = false := by simp [World.frozen?, gC]
 have f2 : w2.frozen? ⟨w.heap.size + 1, 2, none⟩ = false := by simp [World.frozen?, gC]
 have f3 : w2.frozen? ⟨w.heap.size + 1, 3, none⟩ = false := by simp [World.frozen?, gC]
 clear gC
 obtain ⟨F, hF⟩ : ∃ X, X = w2.setCells (w.heap.size + 1) 0 [.int .i64 (T + 1), .int .i64 (T + 1), .int .i64 (0), .int .i64 (3652424)] := ⟨_, rfl⟩
 have gF := bx_heap [.int .i64 (T + 1), .int .i64 (T + 1), .int .i64 (0), .int .i64 (3652424)] 0 (GB.out _ kw2)
 rw [← hF] at gF
 have hs4 : bxA #[.int .i64 0, .int .i64 0, .int .i64 0, .int .i64 0] 0 [.int .i64 (T + 1), .int .i64 (T + 1), .int .i64 (0), .int .i64 (3652424)] = #[.int .i64 (T + 1), .int .i64 (T + 1), .int .i64 (0), .int .i64 (3652424)] := by kernel_rfl
 rw [hs4] at gF
 have KF := Lib.hid (show Kp w F by rw [hF]; exact bx_kp (by omega) _ 0 (K0.out.trans kw2))
 have TH := Lib.hid (bx_there (GB.out _ kw2) 0 4 (by decide))
 obtain ⟨x0, x1, x2, x3⟩ := row4 gF
 have HF := Lib.hid hF
 clear gF hs4 hF
 go_wp2
 refine (?_ : bodyPost _ _ _ _ _ (w2.setCells (w.heap.size + 1) 0 [.int .i64 (T + 1), .int .i64 (T + 1), .int .i64 (0), .int .i64 (3652424)]))
 rw [← HF.out]
 refine bodyPost_ret (v := .agg #[.int .i64 (T + 1), .int .i64 (T + 1), .int .i64 (0), .int .i64 (3652424)]) (by simp [results, Tryz.results220, go_sem, x0, x1, x2, x3]) rfl ⟨rfl, KF.out⟩
abbrev wyoverlaps0 : Oper := { dst := some 3, op := Go.Op.fieldAddr 172 (Go.Operand.tmp 1) 0, type := 0, pos := "box.go:44", after := #[], guard := none }
abbrev wyoverlaps1 : Oper := { dst := some 4, op := Go.Op.load 3 (Go.Operand.tmp 3), type := 3, pos := "box.go:44", after := #[{ on := 0, ground := Go.Ground.data }], guard := none }
abbrev wyoverlaps2 : Oper := { dst := some 5, op := Go.Op.binOp Go.BinOp.add 3 (Go.Operand.tmp 4) (Go.Operand.const (Go.Value.int Go.IntKind.i64 1)) 3, type := 3, pos := "box.go:44", after := #[{ on := 1, ground := Go.Ground.data }], guard := none }
abbrev wyoverlaps3 : Oper := { dst := some 6, op := Go.Op.fieldAddr 172 (Go.Operand.tmp 1) 1, type := 0, pos := "box.go:44", after := #[], guard := none }
abbrev wyoverlaps4 : Oper := { dst := some 7, op := Go.Op.load 3 (Go.Operand.tmp 6), type := 3, pos := "box.go:44", after := #[{ on := 3, ground := Go.Ground.data }], guard := none }
abbrev wyoverlaps5 : Oper := { dst := some 8, op := Go.Op.build 53 #[(0, Go.Operand.tmp 5), (1, Go.Operand.tmp 7)], type := 53, pos := "box.go:44", after := #[{ on := 2, ground := Go.Ground.data }, { on := 4, ground := Go.Ground.data }], guard := none }
abbrev wyoverlaps6 : Oper := { dst := some 9, op := Go.Op.fieldAddr 172 (Go.Operand.tmp 1) 1, type := 0, pos := "box.go:44", after := #[], guard := none }
abbrev wyoverlaps7 : Oper := { dst := some 10, op := Go.Op.load 3 (Go.Operand.tmp 9), type := 3, pos := "box.go:44", after := #[{ on := 6, ground := Go.Ground.data }], guard := none }
abbrev wyoverlaps8 : Oper := { dst := some 11, op := Go.Op.binOp Go.BinOp.add 3 (Go.Operand.tmp 10) (Go.Operand.const (Go.Value.int Go.IntKind.i64 1)) 3, type := 3, pos := "box.go:44", after := #[{ on := 7, ground := Go.Ground.data }], guard := none }
abbrev wyoverlaps9 : Oper := { dst := some 12, op := Go.Op.call { callee := Go.Callee.value (Go.Operand.func 275), args := #[Go.Operand.tmp 11], argTypes := #[3] }, type := 53, pos := "box.go:44", after := #[{ on := 8, ground := Go.Ground.data }], guard := none }
abbrev wyoverlaps10 : Oper := { dst := some 13, op := Go.Op.build 171 #[(0, Go.Operand.tmp 8), (1, Go.Operand.tmp 12)], type := 171, pos := "box.go:44", after := #[{ on := 5, ground := Go.Ground.data }, { on := 9, ground := Go.Ground.data }], guard := none }
abbrev wyoverlaps11 : Oper := { dst := none, op := Go.Op.store 171 (Go.Operand.tmp 2) (Go.Operand.tmp 13), type := 0, pos := "box.go:44", after := #[{ on := 10, ground := Go.Ground.data }, { on := 9, ground := Go.Ground.chain }, { on := 0, ground := Go.Ground.phase }, { on := 1, ground := Go.Ground.phase }, { on := 2, ground := Go.Ground.phase }, { on := 3, ground := Go.Ground.phase }, { on := 4, ground := Go.Ground.phase }, { on := 5, ground := Go.Ground.phase }, { on := 6, ground := Go.Ground.phase }, { on := 7, ground := Go.Ground.phase }, { on := 8, ground := Go.Ground.phase }, { on := 9, ground := Go.Ground.phase }, { on := 10, ground := Go.Ground.phase }], guard := none }
theorem overlaps_way (S T : Int) (w : World) (h1 : 0 ≤ S) (h2 : S ≤ 4000000) (h3 : 0 ≤ T) (h4 : T ≤ 4000000) : Calls Tryz.prog 221 #[.agg #[.int .i64 S, .int .i64 T]] w fun e w' => e = .returned (.agg #[.int .i64 (S + 1), .int .i64 (T), .int .i64 (T + 1), .int .i64 (3652424)]) ∧ Kp w w' := by
 obtain ⟨W0, hW⟩ : ∃ x, x = (w.alloc (.cells #[.int .i64 S, .int .i64 T] 172)).alloc (.cells #[.int .i64 0, .int .i64 0, .int .i64 0, .int .i64 0] 171) := ⟨_, rfl⟩
 have k0 : Kp w W0 := by rw [hW]; exact (Kp.alloc _ _).trans (Kp.alloc _ _)
 have gA : W0.heap[w.heap.size]? = some (.cells #[.int .i64 S, .int .i64 T] 172 (0, 0)) := by rw [hW]; exact heap_block (Kp.alloc _ _) (heap_at _ _ _ rfl)
 have gB : W0.heap[w.heap.size + 1]? = some (.cells #[.int .i64 0, .int .i64 0, .int .i64 0, .int .i64 0] 171 (0, 0)) := by rw [hW]; exact heap_at _ _ _ (by simp)
 have hz : W0.heap.size = w.heap.size + 2 := by rw [hW]; simp
 have K0 := Lib.hid k0
 have GB := Lib.hid (fun w1 (q : Kp W0 w1) => heap_block q gB)
 have KS := Lib.hid (fun w' (kq : Kp W0 w') => show w'.cell? ⟨w.heap.size, 0, none⟩ = some (.int .i64 S) ∧ w'.cell? ⟨w.heap.size, 1, none⟩ = some (.int .i64 T) ∧ Kp W0 w' from ⟨(row2 (heap_block kq gA)).1, (row2 (heap_block kq gA)).2, kq⟩)
 have k00 : Kp W0 W0 := Kp.refl _
 have wS1 : IntKind.i64.wrap (S + 1) = S + 1 := by rw [IntKind.wrap_i64]; omega
 have wS2 : IntKind.i64.wrap (S - 1) = S - 1 := by rw [IntKind.wrap_i64]; omega
 have wS3 : IntKind.i64.wrap (S - 2) = S - 2 := by rw [IntKind.wrap_i64]; omega
 have wT1 : IntKind.i64.wrap (T + 1) = T + 1 := by rw [IntKind.wrap_i64]; omega
 have wT2 : IntKind.i64.wrap (T - 1) = T - 1 := by rw [IntKind.wrap_i64]; omega
 have wT3 : IntKind.i64.wrap (T + 2) = T + 2 := by rw [IntKind.wrap_i64]; omega
 have HW := Lib.hid hW
 clear hW gA gB k0
 go_enter Tryz.func221, Tryz.ntmps221
 go_upto_region 1 with fail
 rw [← HW.out]
 refine wp_region_held_drew (S := fun w' => w'.cell? ⟨w.heap.size, 0, none⟩ = some (.int .i64 S) ∧ w'.cell? ⟨w.heap.size, 1, none⟩ = some (.int .i64 T)) (by kernel_rfl) ?_ (fun hHeld0 => ?_)
 ·(try dsimp only); exact ⟨(KS.out _ (by first | with_reducible exact k00 | ((repeat (first | with_reducible refine Kp.trans ?_ (Kp.drew _) | with_reducible refine Kp.trans ?_ (Kp.alloc _ _))); with_reducible exact k00))).1, (KS.out _ (by first | with_reducible exact k00 | ((repeat (first | with_reducible refine Kp.trans ?_ (Kp.drew _) | with_reducible refine Kp.trans ?_ (Kp.alloc _ _))); with_reducible exact k00))).2.1⟩
 refine tkv 0 wyoverlaps0 ?_
 (try simp only [Act.put, wyoverlaps0, List.setIfInBounds_toArray, List.set_cons_zero, List.set_cons_succ])
 refine tkv 1 wyoverlaps1 ?_
 (try simp only [Act.put, wyoverlaps1, List.setIfInBounds_toArray, List.set_cons_zero, List.set_cons_succ])
 refine tkv 2 wyoverlaps2 ?_
 (try simp only [Act.put, wyoverlaps2, List.setIfInBounds_toArray, List.set_cons_zero, List.set_cons_succ])
 refine tkv 3 wyoverlaps3 ?_
 (try simp only [Act.put, wyoverlaps3, List.setIfInBounds_toArray, List.set_cons_zero, List.set_cons_succ])
 refine tkv 4 wyoverlaps4 ?_
 (try simp only [Act.put, wyoverlaps4, List.setIfInBounds_toArray, List.set_cons_zero, List.set_cons_succ])
 refine tkv 5 wyoverlaps5 ?_
 (try simp only [Act.put, wyoverlaps5, List.setIfInBounds_toArray, List.set_cons_zero, List.set_cons_succ])
 refine tkv 6 wyoverlaps6 ?_
 (try simp only [Act.put, wyoverlaps6, List.setIfInBounds_toArray, List.set_cons_zero, List.set_cons_succ])
 refine tkv 7 wyoverlaps7 ?_
 (try simp only [Act.put, wyoverlaps7, List.setIfInBounds_toArray, List.set_cons_zero, List.set_cons_succ])
 refine tkv 8 wyoverlaps8 ?_
 (try simp only [Act.put, wyoverlaps8, List.setIfInBounds_toArray, List.set_cons_zero, List.set_cons_succ])
 refine tkE 9 wyoverlaps9 rfl (by kernel_rfl) (fun K hK => ?_)
 go_simp
 (refine (from_any _ _).mono ?_; rintro e w1 ⟨rfl, kq1⟩; have kw1 : Kp W0 w1 := Kp.trans (show Kp W0 _ from (by first | with_reducible exact k00 | ((repeat (first | with_reducible refine Kp.trans ?_ (Kp.drew _) | with_reducible refine Kp.trans ?_ (Kp.alloc _ _))); with_reducible exact k00))) kq1; clear kq1)
 (try go_wp2_with fail)
 refine hK.out _ _ ?_ (fun hHeld1 => ?_)
 ·(try dsimp only); exact ⟨(KS.out _ (by first | with_reducible exact kw1 | ((repeat (first | with_reducible refine Kp.trans ?_ (Kp.drew _) | with_reducible refine Kp.trans ?_ (Kp.alloc _ _))); with_reducible exact kw1))).1, (KS.out _ (by first | with_reducible exact kw1 | ((repeat (first | with_reducible refine Kp.trans ?_ (Kp.drew _) | with_reducible refine Kp.trans ?_ (Kp.alloc _ _))); with_reducible exact kw1))).2.1⟩
 clear hK K hHeld0
 (try simp only [Act.put, wyoverlaps9, List.setIfInBounds_toArray, List.set_cons_zero, List.set_cons_succ])
 refine tkv 10 wyoverlaps10 ?_
 (try simp only [Act.put, wyoverlaps10, List.setIfInBounds_toArray, List.set_cons_zero, List.set_cons_succ])
 refine tkE 11 wyoverlaps11 rfl (by kernel_rfl) (fun K hK => ?_)
 (refine bx_store (W := w) rfl 171 (.tmp 2) (.tmp 13) rfl (w.heap.size + 1) [.int .i64 (S + 1), .int .i64 (T), .int .i64 (T + 1), .int .i64 (3652424)] #[.int .i64 0, .int .i64 0, .int .i64 0, .int .i64 0] (by simp [Act.eval, Act.put, wS1, wS2, wS3, wT1, wT2, wT3]) (by simp [Act.eval, Act.put, wS1, wS2, wS3, wT1, wT2, wT3]) (K0.out.trans (by first | with_reducible exact kw1 | ((repeat (first | with_reducible refine Kp.trans ?_ (Kp.drew _) | with_reducible refine Kp.trans ?_ (Kp.alloc _ _))); with_reducible exact kw1))) (by omega) (GB.out _ (by first | with_reducible exact kw1 | ((repeat (first | with_reducible refine Kp.trans ?_ (Kp.drew _) | with_reducible refine Kp.trans ?_ (Kp.alloc _ _))); with_reducible exact kw1))) (Nat.le_refl 4) (by kernel_rfl) (by kernel_rfl) (by simp [Value.oneCell']) ?_; intro F hF KF gF; have KFH := Lib.hid KF; obtain ⟨x0, x1, x2, x3⟩ := row4 gF; have qA : F.cell? ⟨w.heap.size, 0, none⟩ = some (.int .i64 S) := (by rw [hF]; have q := (KS.out _ (by first | with_reducible exact kw1 | ((repeat (first | with_reducible refine Kp.trans ?_ (Kp.drew _) | with_reducible refine Kp.trans ?_ (Kp.alloc _ _))); with_reducible exact kw1))).1; have n0 : w.heap.size ≠ w.heap.size + 1 := (by omega); simp only [World.cell?] at q ⊢; rw [bx_other n0]; exact q); have qB : F.cell? ⟨w.heap.size, 1, none⟩ = some (.int .i64 T) := (by rw [hF]; have q := (KS.out _ (by first | with_reducible exact kw1 | ((repeat (first | with_reducible refine Kp.trans ?_ (Kp.drew _) | with_reducible refine Kp.trans ?_ (Kp.alloc _ _))); with_reducible exact kw1))).2.1; have n0 : w.heap.size ≠ w.heap.size + 1 := (by omega); simp only [World.cell?] at q ⊢; rw [bx_other n0]; exact q); clear gF hF)
 (try go_wp2_with fail)
 refine hK.out _ _ ?_ (fun hHeld2 => ?_)
 ·(try dsimp only); exact ⟨qA, qB⟩
 clear hK K hHeld1
 (try simp only [Act.put, wyoverlaps11, List.setIfInBounds_toArray, List.set_cons_zero, List.set_cons_succ])
 refine wpAnyH_done (by kernel_rfl) ?_ _
 go_wp2
 refine bodyPost_ret (v := .agg #[.int .i64 (S + 1), .int .i64 (T), .int .i64 (T + 1), .int .i64 (3652424)]) (by simp [results, Tryz.results221, go_sem, x0, x1, x2, x3]) rfl ⟨rfl, KFH.out⟩
abbrev wystarts0 : Oper := { dst := some 3, op := Go.Op.fieldAddr 172 (Go.Operand.tmp 1) 0, type := 0, pos := "box.go:48", after := #[], guard := none }
abbrev wystarts1 : Oper := { dst := some 4, op := Go.Op.load 3 (Go.Operand.tmp 3), type := 3, pos := "box.go:48", after := #[{ on := 0, ground := Go.Ground.data }], guard := none }
abbrev wystarts2 : Oper := { dst := some 5, op := Go.Op.call { callee := Go.Callee.value (Go.Operand.func 277), args := #[Go.Operand.tmp 4], argTypes := #[3] }, type := 53, pos := "box.go:48", after := #[{ on := 1, ground := Go.Ground.data }], guard := none }
abbrev wystarts3 : Oper := { dst := some 6, op := Go.Op.fieldAddr 172 (Go.Operand.tmp 1) 1, type := 0, pos := "box.go:48", after := #[], guard := none }
abbrev wystarts4 : Oper := { dst := some 7, op := Go.Op.load 3 (Go.Operand.tmp 6), type := 3, pos := "box.go:48", after := #[{ on := 3, ground := Go.Ground.data }], guard := none }
abbrev wystarts5 : Oper := { dst := some 8, op := Go.Op.binOp Go.BinOp.add 3 (Go.Operand.tmp 7) (Go.Operand.const (Go.Value.int Go.IntKind.i64 1)) 3, type := 3, pos := "box.go:48", after := #[{ on := 4, ground := Go.Ground.data }], guard := none }
abbrev wystarts6 : Oper := { dst := some 9, op := Go.Op.call { callee := Go.Callee.value (Go.Operand.func 275), args := #[Go.Operand.tmp 8], argTypes := #[3] }, type := 53, pos := "box.go:48", after := #[{ on := 5, ground := Go.Ground.data }, { on := 2, ground := Go.Ground.chain }], guard := none }
abbrev wystarts7 : Oper := { dst := some 10, op := Go.Op.build 171 #[(0, Go.Operand.tmp 5), (1, Go.Operand.tmp 9)], type := 171, pos := "box.go:48", after := #[{ on := 2, ground := Go.Ground.data }, { on := 6, ground := Go.Ground.data }], guard := none }
abbrev wystarts8 : Oper := { dst := none, op := Go.Op.store 171 (Go.Operand.tmp 2) (Go.Operand.tmp 10), type := 0, pos := "box.go:48", after := #[{ on := 7, ground := Go.Ground.data }, { on := 6, ground := Go.Ground.chain }, { on := 0, ground := Go.Ground.phase }, { on := 1, ground := Go.Ground.phase }, { on := 2, ground := Go.Ground.phase }, { on := 3, ground := Go.Ground.phase }, { on := 4, ground := Go.Ground.phase }, { on := 5, ground := Go.Ground.phase }, { on := 6, ground := Go.Ground.phase }, { on := 7, ground := Go.Ground.phase }], guard := none }
theorem starts_way (S T : Int) (w : World) (h1 : 0 ≤ S) (h2 : S ≤ 4000000) (h3 : 0 ≤ T) (h4 : T ≤ 4000000) : Calls Tryz.prog 222 #[.agg #[.int .i64 S, .int .i64 T]] w fun e w' => e = .returned (.agg #[.int .i64 (S), .int .i64 (S), .int .i64 (T + 1), .int .i64 (3652424)]) ∧ Kp w w' := by
 obtain ⟨W0, hW⟩ : ∃ x, x = (w.alloc (.cells #[.int .i64 S, .int .i64 T] 172)).alloc (.cells #[.int .i64 0, .int .i64 0, .int .i64 0, .int .i64 0] 171) := ⟨_, rfl⟩
 have k0 : Kp w W0 := by rw [hW]; exact (Kp.alloc _ _).trans (Kp.alloc _ _)
 have gA : W0.heap[w.heap.size]? = some (.cells #[.int .i64 S, .int .i64 T] 172 (0, 0)) := by rw [hW]; exact heap_block (Kp.alloc _ _) (heap_at _ _ _ rfl)
 have gB : W0.heap[w.heap.size + 1]? = some (.cells #[.int .i64 0, .int .i64 0, .int .i64 0, .int .i64 0] 171 (0, 0)) := by rw [hW]; exact heap_at _ _ _ (by simp)
 have hz : W0.heap.size = w.heap.size + 2 := by rw [hW]; simp
 have K0 := Lib.hid k0
 have GB := Lib.hid (fun w1 (q : Kp W0 w1) => heap_block q gB)
 have KS := Lib.hid (fun w' (kq : Kp W0 w') => show w'.cell? ⟨w.heap.size, 0, none⟩ = some (.int .i64 S) ∧ w'.cell? ⟨w.heap.size, 1, none⟩ = some (.int .i64 T) ∧ Kp W0 w' from ⟨(row2 (heap_block kq gA)).1, (row2 (heap_block kq gA)).2, kq⟩)
 have k00 : Kp W0 W0 := Kp.refl _
 have wS1 : IntKind.i64.wrap (S + 1) = S + 1 := by rw [IntKind.wrap_i64]; omega
 have wS2 : IntKind.i64.wrap (S - 1) = S - 1 := by rw [IntKind.wrap_i64]; omega
 have wS3 : IntKind.i64.wrap (S - 2) = S - 2 := by rw [IntKind.wrap_i64]; omega
 have wT1 : IntKind.i64.wrap (T + 1) = T + 1 := by rw [IntKind.wrap_i64]; omega
 have wT2 : IntKind.i64.wrap (T - 1) = T - 1 := by rw [IntKind.wrap_i64]; omega
 have wT3 : IntKind.i64.wrap (T + 2) = T + 2 := by rw [IntKind.wrap_i64]; omega
 have HW := Lib.hid hW
 clear hW gA gB k0
 go_enter Tryz.func222, Tryz.ntmps222
 go_upto_region 1 with fail
 rw [← HW.out]
 refine wp_region_held_drew (S := fun w' => w'.cell? ⟨w.heap.size, 0, none⟩ = some (.int .i64 S) ∧ w'.cell? ⟨w.heap.size, 1, none⟩ = some (.int .i64 T)) (by kernel_rfl) ?_ (fun hHeld0 => ?_)
 ·(try dsimp only); exact ⟨(KS.out _ (by first | with_reducible exact k00 | ((repeat (first | with_reducible refine Kp.trans ?_ (Kp.drew _) | with_reducible refine Kp.trans ?_ (Kp.alloc _ _))); with_reducible exact k00))).1, (KS.out _ (by first | with_reducible exact k00 | ((repeat (first | with_reducible refine Kp.trans ?_ (Kp.drew _) | with_reducible refine Kp.trans ?_ (Kp.alloc _ _))); with_reducible exact k00))).2.1⟩
 refine tkv 0 wystarts0 ?_
 (try simp only [Act.put, wystarts0, List.setIfInBounds_toArray, List.set_cons_zero, List.set_cons_succ])
 refine tkv 1 wystarts1 ?_
 (try simp only [Act.put, wystarts1, List.setIfInBounds_toArray, List.set_cons_zero, List.set_cons_succ])
 refine tkv 3 wystarts3 ?_
 (try simp only [Act.put, wystarts3, List.setIfInBounds_toArray, List.set_cons_zero, List.set_cons_succ])
 refine tkv 4 wystarts4 ?_
 (try simp only [Act.put, wystarts4, List.setIfInBounds_toArray, List.set_cons_zero, List.set_cons_succ])
 refine tkv 5 wystarts5 ?_
 (try simp only [Act.put, wystarts5, List.setIfInBounds_toArray, List.set_cons_zero, List.set_cons_succ])
 refine tkE 2 wystarts2 rfl (by kernel_rfl) (fun K hK => ?_)
 go_simp
 (refine (just_any _ _).mono ?_; rintro e w1 ⟨rfl, kq1⟩; have kw1 : Kp W0 w1 := Kp.trans (show Kp W0 _ from (by first | with_reducible exact k00 | ((repeat (first | with_reducible refine Kp.trans ?_ (Kp.drew _) | with_reducible refine Kp.trans ?_ (Kp.alloc _ _))); with_reducible exact k00))) kq1; clear kq1)
 (try go_wp2_with fail)
 refine hK.out _ _ ?_ (fun hHeld1 => ?_)
 ·(try dsimp only); exact ⟨(KS.out _ (by first | with_reducible exact kw1 | ((repeat (first | with_reducible refine Kp.trans ?_ (Kp.drew _) | with_reducible refine Kp.trans ?_ (Kp.alloc _ _))); with_reducible exact kw1))).1, (KS.out _ (by first | with_reducible exact kw1 | ((repeat (first | with_reducible refine Kp.trans ?_ (Kp.drew _) | with_reducible refine Kp.trans ?_ (Kp.alloc _ _))); with_reducible exact kw1))).2.1⟩
 clear hK K hHeld0
 (try simp only [Act.put, wystarts2, List.setIfInBounds_toArray, List.set_cons_zero, List.set_cons_succ])
 refine tkE 6 wystarts6 rfl (by kernel_rfl) (fun K hK => ?_)
 go_simp
 (refine (from_any _ _).mono ?_; rintro e w2 ⟨rfl, kq1⟩; have kw2 : Kp W0 w2 := Kp.trans (show Kp W0 _ from (by first | with_reducible exact kw1 | ((repeat (first | with_reducible refine Kp.trans ?_ (Kp.drew _) | with_reducible refine Kp.trans ?_ (Kp.alloc _ _))); with_reducible exact kw1))) kq1; clear kq1)
 (try go_wp2_with fail)
 refine hK.out _ _ ?_ (fun hHeld2 => ?_)
 ·(try dsimp only); exact ⟨(KS.out _ (by first | with_reducible exact kw2 | ((repeat (first | with_reducible refine Kp.trans ?_ (Kp.drew _) | with_reducible refine Kp.trans ?_ (Kp.alloc _ _))); with_reducible exact kw2))).1, (KS.out _ (by first | with_reducible exact kw2 | ((repeat (first | with_reducible refine Kp.trans ?_ (Kp.drew _) | with_reducible refine Kp.trans ?_ (Kp.alloc _ _))); with_reducible exact kw2))).2.1⟩
 clear hK K hHeld1
 (try simp only [Act.put, wystarts6, List.setIfInBounds_toArray, List.set_cons_zero, List.set_cons_succ])
 refine tkv 7 wystarts7 ?_
 (try simp only [Act.put, wystarts7, List.setIfInBounds_toArray, List.set_cons_zero, List.set_cons_succ])
 refine tkE 8 wystarts8 rfl (by kernel_rfl) (fun K hK => ?_)
 (refine bx_store (W := w) rfl 171 (.tmp 2) (.tmp 10) rfl (w.heap.size + 1) [.int .i64 (S), .int .i64 (S), .int .i64 (T + 1), .int .i64 (3652424)] #[.int .i64 0, .int .i64 0, .int .i64 0, .int .i64 0] (by simp [Act.eval, Act.put, wS1, wS2, wS3, wT1, wT2, wT3]) (by simp [Act.eval, Act.put, wS1, wS2, wS3, wT1, wT2, wT3]) (K0.out.trans (by first | with_reducible exact kw2 | ((repeat (first | with_reducible refine Kp.trans ?_ (Kp.drew _) | with_reducible refine Kp.trans ?_ (Kp.alloc _ _))); with_reducible exact kw2))) (by omega) (GB.out _ (by first | with_reducible exact kw2 | ((repeat (first | with_reducible refine Kp.trans ?_ (Kp.drew _) | with_reducible refine Kp.trans ?_ (Kp.alloc _ _))); with_reducible exact kw2))) (Nat.le_refl 4) (by kernel_rfl) (by kernel_rfl) (by simp [Value.oneCell']) ?_; intro F hF KF gF; have KFH := Lib.hid KF; obtain ⟨x0, x1, x2, x3⟩ := row4 gF; have qA : F.cell? ⟨w.heap.size, 0, none⟩ = some (.int .i64 S) := (by rw [hF]; have q := (KS.out _ (by first | with_reducible exact kw2 | ((repeat (first | with_reducible refine Kp.trans ?_ (Kp.drew _) | with_reducible refine Kp.trans ?_ (Kp.alloc _ _))); with_reducible exact kw2))).1; have n0 : w.heap.size ≠ w.heap.size + 1 := (by omega); simp only [World.cell?] at q ⊢; rw [bx_other n0]; exact q); have qB : F.cell? ⟨w.heap.size, 1, none⟩ = some (.int .i64 T) := (by rw [hF]; have q := (KS.out _ (by first | with_reducible exact kw2 | ((repeat (first | with_reducible refine Kp.trans ?_ (Kp.drew _) | with_reducible refine Kp.trans ?_ (Kp.alloc _ _))); with_reducible exact kw2))).2.1; have n0 : w.heap.size ≠ w.heap.size + 1 := (by omega); simp only [World.cell?] at q ⊢; rw [bx_other n0]; exact q); clear gF hF)
 (try go_wp2_with fail)
 refine hK.out _ _ ?_ (fun hHeld3 => ?_)
 ·(try dsimp only); exact ⟨qA, qB⟩
 clear hK K hHeld2
 (try simp only [Act.put, wystarts8, List.setIfInBounds_toArray, List.set_cons_zero, List.set_cons_succ])
 refine wpAnyH_done (by kernel_rfl) ?_ _
 go_wp2
 refine bodyPost_ret (v := .agg #[.int .i64 (S), .int .i64 (S), .int .i64 (T + 1), .int .i64 (3652424)]) (by simp [results, Tryz.results222, go_sem, x0, x1, x2, x3]) rfl ⟨rfl, KFH.out⟩
abbrev wyduring0 : Oper := { dst := some 3, op := Go.Op.fieldAddr 172 (Go.Operand.tmp 1) 0, type := 0, pos := "box.go:52", after := #[], guard := none }
abbrev wyduring1 : Oper := { dst := some 4, op := Go.Op.load 3 (Go.Operand.tmp 3), type := 3, pos := "box.go:52", after := #[{ on := 0, ground := Go.Ground.data }], guard := none }
abbrev wyduring2 : Oper := { dst := some 5, op := Go.Op.binOp Go.BinOp.sub 3 (Go.Operand.tmp 4) (Go.Operand.const (Go.Value.int Go.IntKind.i64 1)) 3, type := 3, pos := "box.go:52", after := #[{ on := 1, ground := Go.Ground.data }], guard := none }
abbrev wyduring3 : Oper := { dst := some 6, op := Go.Op.call { callee := Go.Callee.value (Go.Operand.func 278), args := #[Go.Operand.tmp 5], argTypes := #[3] }, type := 53, pos := "box.go:52", after := #[{ on := 2, ground := Go.Ground.data }], guard := none }
abbrev wyduring4 : Oper := { dst := some 7, op := Go.Op.fieldAddr 172 (Go.Operand.tmp 1) 1, type := 0, pos := "box.go:52", after := #[], guard := none }
abbrev wyduring5 : Oper := { dst := some 8, op := Go.Op.load 3 (Go.Operand.tmp 7), type := 3, pos := "box.go:52", after := #[{ on := 4, ground := Go.Ground.data }], guard := none }
abbrev wyduring6 : Oper := { dst := some 9, op := Go.Op.binOp Go.BinOp.add 3 (Go.Operand.tmp 8) (Go.Operand.const (Go.Value.int Go.IntKind.i64 1)) 3, type := 3, pos := "box.go:52", after := #[{ on := 5, ground := Go.Ground.data }], guard := none }
abbrev wyduring7 : Oper := { dst := some 10, op := Go.Op.call { callee := Go.Callee.value (Go.Operand.func 275), args := #[Go.Operand.tmp 9], argTypes := #[3] }, type := 53, pos := "box.go:52", after := #[{ on := 6, ground := Go.Ground.data }, { on := 3, ground := Go.Ground.chain }], guard := none }
abbrev wyduring8 : Oper := { dst := some 11, op := Go.Op.build 171 #[(0, Go.Operand.tmp 6), (1, Go.Operand.tmp 10)], type := 171, pos := "box.go:52", after := #[{ on := 3, ground := Go.Ground.data }, { on := 7, ground := Go.Ground.data }], guard := none }
abbrev wyduring9 : Oper := { dst := none, op := Go.Op.store 171 (Go.Operand.tmp 2) (Go.Operand.tmp 11), type := 0, pos := "box.go:52", after := #[{ on := 8, ground := Go.Ground.data }, { on := 7, ground := Go.Ground.chain }, { on := 0, ground := Go.Ground.phase }, { on := 1, ground := Go.Ground.phase }, { on := 2, ground := Go.Ground.phase }, { on := 3, ground := Go.Ground.phase }, { on := 4, ground := Go.Ground.phase }, { on := 5, ground := Go.Ground.phase }, { on := 6, ground := Go.Ground.phase }, { on := 7, ground := Go.Ground.phase }, { on := 8, ground := Go.Ground.phase }], guard := none }
theorem during_way (S T : Int) (w : World) (h1 : 0 ≤ S) (h2 : S ≤ 4000000) (h3 : 0 ≤ T) (h4 : T ≤ 4000000) : Calls Tryz.prog 223 #[.agg #[.int .i64 S, .int .i64 T]] w fun e w' => e = .returned (.agg #[.int .i64 (0), .int .i64 (S - 1), .int .i64 (T + 1), .int .i64 (3652424)]) ∧ Kp w w' := by
 obtain ⟨W0, hW⟩ : ∃ x, x = (w.alloc (.cells #[.int .i64 S, .int .i64 T] 172)).alloc (.cells #[.int .i64 0, .int .i64 0, .int .i64 0, .int .i64 0] 171) := ⟨_, rfl⟩
 have k0 : Kp w W0 := by rw [hW]; exact (Kp.alloc _ _).trans (Kp.alloc _ _)
 have gA : W0.heap[w.heap.size]? = some (.cells #[.int .i64 S, .int .i64 T] 172 (0, 0)) := by rw [hW]; exact heap_block (Kp.alloc _ _) (heap_at _ _ _ rfl)
 have gB : W0.heap[w.heap.size + 1]? = some (.cells #[.int .i64 0, .int .i64 0, .int .i64 0, .int .i64 0] 171 (0, 0)) := by rw [hW]; exact heap_at _ _ _ (by simp)
 have hz : W0.heap.size = w.heap.size + 2 := by rw [hW]; simp
 have K0 := Lib.hid k0
 have GB := Lib.hid (fun w1 (q : Kp W0 w1) => heap_block q gB)
 have KS := Lib.hid (fun w' (kq : Kp W0 w') => show w'.cell? ⟨w.heap.size, 0, none⟩ = some (.int .i64 S) ∧ w'.cell? ⟨w.heap.size, 1, none⟩ = some (.int .i64 T) ∧ Kp W0 w' from ⟨(row2 (heap_block kq gA)).1, (row2 (heap_block kq gA)).2, kq⟩)
 have k00 : Kp W0 W0 := Kp.refl _
 have wS1 : IntKind.i64.wrap (S + 1) = S + 1 := by rw [IntKind.wrap_i64]; omega
 have wS2 : IntKind.i64.wrap (S - 1) = S - 1 := by rw [IntKind.wrap_i64]; omega
 have wS3 : IntKind.i64.wrap (S - 2) = S - 2 := by rw [IntKind.wrap_i64]; omega
 have wT1 : IntKind.i64.wrap (T + 1) = T + 1 := by rw [IntKind.wrap_i64]; omega
 have wT2 : IntKind.i64.wrap (T - 1) = T - 1 := by rw [IntKind.wrap_i64]; omega
 have wT3 : IntKind.i64.wrap (T + 2) = T + 2 := by rw [IntKind.wrap_i64]; omega
 have HW := Lib.hid hW
 clear hW gA gB k0
 go_enter Tryz.func223, Tryz.ntmps223
 go_upto_region 1 with fail
 rw [← HW.out]
 refine wp_region_held_drew (S := fun w' => w'.cell? ⟨w.heap.size, 0, none⟩ = some (.int .i64 S) ∧ w'.cell? ⟨w.heap.size, 1, none⟩ = some (.int .i64 T)) (by kernel_rfl) ?_ (fun hHeld0 => ?_)
 ·(try dsimp only); exact ⟨(KS.out _ (by first | with_reducible exact k00 | ((repeat (first | with_reducible refine Kp.trans ?_ (Kp.drew _) | with_reducible refine Kp.trans ?_ (Kp.alloc _ _))); with_reducible exact k00))).1, (KS.out _ (by first | with_reducible exact k00 | ((repeat (first | with_reducible refine Kp.trans ?_ (Kp.drew _) | with_reducible refine Kp.trans ?_ (Kp.alloc _ _))); with_reducible exact k00))).2.1⟩
 refine tkv 0 wyduring0 ?_
 (try simp only [Act.put, wyduring0, List.setIfInBounds_toArray, List.set_cons_zero, List.set_cons_succ])
 refine tkv 1 wyduring1 ?_
 (try simp only [Act.put, wyduring1, List.setIfInBounds_toArray, List.set_cons_zero, List.set_cons_succ])
 refine tkv 2 wyduring2 ?_
 (try simp only [Act.put, wyduring2, List.setIfInBounds_toArray, List.set_cons_zero, List.set_cons_succ])
 refine tkv 4 wyduring4 ?_
 (try simp only [Act.put, wyduring4, List.setIfInBounds_toArray, List.set_cons_zero, List.set_cons_succ])
 refine tkv 5 wyduring5 ?_
 (try simp only [Act.put, wyduring5, List.setIfInBounds_toArray, List.set_cons_zero, List.set_cons_succ])
 refine tkv 6 wyduring6 ?_
 (try simp only [Act.put, wyduring6, List.setIfInBounds_toArray, List.set_cons_zero, List.set_cons_succ])
 refine tkE 3 wyduring3 rfl (by kernel_rfl) (fun K hK => ?_)
 go_simp
 (refine (upTo_any _ _).mono ?_; rintro e w1 ⟨rfl, kq1⟩; have kw1 : Kp W0 w1 := Kp.trans (show Kp W0 _ from (by first | with_reducible exact k00 | ((repeat (first | with_reducible refine Kp.trans ?_ (Kp.drew _) | with_reducible refine Kp.trans ?_ (Kp.alloc _ _))); with_reducible exact k00))) kq1; clear kq1)
 (try go_wp2_with fail)
 refine hK.out _ _ ?_ (fun hHeld1 => ?_)
 ·(try dsimp only); exact ⟨(KS.out _ (by first | with_reducible exact kw1 | ((repeat (first | with_reducible refine Kp.trans ?_ (Kp.drew _) | with_reducible refine Kp.trans ?_ (Kp.alloc _ _))); with_reducible exact kw1))).1, (KS.out _ (by first | with_reducible exact kw1 | ((repeat (first | with_reducible refine Kp.trans ?_ (Kp.drew _) | with_reducible refine Kp.trans ?_ (Kp.alloc _ _))); with_reducible exact kw1))).2.1⟩
 clear hK K hHeld0
 (try simp only [Act.put, wyduring3, List.setIfInBounds_toArray, List.set_cons_zero, List.set_cons_succ])
 refine tkE 7 wyduring7 rfl (by kernel_rfl) (fun K hK => ?_)
 go_simp
 (refine (from_any _ _).mono ?_; rintro e w2 ⟨rfl, kq1⟩; have kw2 : Kp W0 w2 := Kp.trans (show Kp W0 _ from (by first | with_reducible exact kw1 | ((repeat (first | with_reducible refine Kp.trans ?_ (Kp.drew _) | with_reducible refine Kp.trans ?_ (Kp.alloc _ _))); with_reducible exact kw1))) kq1; clear kq1)
 (try go_wp2_with fail)
 refine hK.out _ _ ?_ (fun hHeld2 => ?_)
 ·(try dsimp only); exact ⟨(KS.out _ (by first | with_reducible exact kw2 | ((repeat (first | with_reducible refine Kp.trans ?_ (Kp.drew _) | with_reducible refine Kp.trans ?_ (Kp.alloc _ _))); with_reducible exact kw2))).1, (KS.out _ (by first | with_reducible exact kw2 | ((repeat (first | with_reducible refine Kp.trans ?_ (Kp.drew _) | with_reducible refine Kp.trans ?_ (Kp.alloc _ _))); with_reducible exact kw2))).2.1⟩
 clear hK K hHeld1
 (try simp only [Act.put, wyduring7, List.setIfInBounds_toArray, List.set_cons_zero, List.set_cons_succ])
 refine tkv 8 wyduring8 ?_
 (try simp only [Act.put, wyduring8, List.setIfInBounds_toArray, List.set_cons_zero, List.set_cons_succ])
 refine tkE 9 wyduring9 rfl (by kernel_rfl) (fun K hK => ?_)
 (refine bx_store (W := w) rfl 171 (.tmp 2) (.tmp 11) rfl (w.heap.size + 1) [.int .i64 (0), .int .i64 (S - 1), .int .i64 (T + 1), .int .i64 (3652424)] #[.int .i64 0, .int .i64 0, .int .i64 0, .int .i64 0] (by simp [Act.eval, Act.put, wS1, wS2, wS3, wT1, wT2, wT3]) (by simp [Act.eval, Act.put, wS1, wS2, wS3, wT1, wT2, wT3]) (K0.out.trans (by first | with_reducible exact kw2 | ((repeat (first | with_reducible refine Kp.trans ?_ (Kp.drew _) | with_reducible refine Kp.trans ?_ (Kp.alloc _ _))); with_reducible exact kw2))) (by omega) (GB.out _ (by first | with_reducible exact kw2 | ((repeat (first | with_reducible refine Kp.trans ?_ (Kp.drew _) | with_reducible refine Kp.trans ?_ (Kp.alloc _ _))); with_reducible exact kw2))) (Nat.le_refl 4) (by kernel_rfl) (by kernel_rfl) (by simp [Value.oneCell']) ?_; intro F hF KF gF; have KFH := Lib.hid KF; obtain ⟨x0, x1, x2, x3⟩ := row4 gF; have qA : F.cell? ⟨w.heap.size, 0, none⟩ = some (.int .i64 S) := (by rw [hF]; have q := (KS.out _ (by first | with_reducible exact kw2 | ((repeat (first | with_reducible refine Kp.trans ?_ (Kp.drew _) | with_reducible refine Kp.trans ?_ (Kp.alloc _ _))); with_reducible exact kw2))).1; have n0 : w.heap.size ≠ w.heap.size + 1 := (by omega); simp only [World.cell?] at q ⊢; rw [bx_other n0]; exact q); have qB : F.cell? ⟨w.heap.size, 1, none⟩ = some (.int .i64 T) := (by rw [hF]; have q := (KS.out _ (by first | with_reducible exact kw2 | ((repeat (first | with_reducible refine Kp.trans ?_ (Kp.drew _) | with_reducible refine Kp.trans ?_ (Kp.alloc _ _))); with_reducible exact kw2))).2.1; have n0 : w.heap.size ≠ w.heap.size + 1 := (by omega); simp only [World.cell?] at q ⊢; rw [bx_other n0]; exact q); clear gF hF)
 (try go_wp2_with fail)
 refine hK.out _ _ ?_ (fun hHeld3 => ?_)
 ·(try dsimp only); exact ⟨qA, qB⟩
 clear hK K hHeld2
 (try simp only [Act.put, wyduring9, List.setIfInBounds_toArray, List.set_cons_zero, List.set_cons_succ])
 refine wpAnyH_done (by kernel_rfl) ?_ _
 go_wp2
 refine bodyPost_ret (v := .agg #[.int .i64 (0), .int .i64 (S - 1), .int .i64 (T + 1), .int .i64 (3652424)]) (by simp [results, Tryz.results223, go_sem, x0, x1, x2, x3]) rfl ⟨rfl, KFH.out⟩
abbrev wyfinishes0 : Oper := { dst := some 3, op := Go.Op.fieldAddr 172 (Go.Operand.tmp 1) 0, type := 0, pos := "box.go:56", after := #[], guard := none }
abbrev wyfinishes1 : Oper := { dst := some 4, op := Go.Op.load 3 (Go.Operand.tmp 3), type := 3, pos := "box.go:56", after := #[{ on := 0, ground := Go.Ground.data }], guard := none }
abbrev wyfinishes2 : Oper := { dst := some 5, op := Go.Op.binOp Go.BinOp.sub 3 (Go.Operand.tmp 4) (Go.Operand.const (Go.Value.int Go.IntKind.i64 1)) 3, type := 3, pos := "box.go:56", after := #[{ on := 1, ground := Go.Ground.data }], guard := none }
abbrev wyfinishes3 : Oper := { dst := some 6, op := Go.Op.call { callee := Go.Callee.value (Go.Operand.func 278), args := #[Go.Operand.tmp 5], argTypes := #[3] }, type := 53, pos := "box.go:56", after := #[{ on := 2, ground := Go.Ground.data }], guard := none }
abbrev wyfinishes4 : Oper := { dst := some 7, op := Go.Op.fieldAddr 172 (Go.Operand.tmp 1) 1, type := 0, pos := "box.go:56", after := #[], guard := none }
abbrev wyfinishes5 : Oper := { dst := some 8, op := Go.Op.load 3 (Go.Operand.tmp 7), type := 3, pos := "box.go:56", after := #[{ on := 4, ground := Go.Ground.data }], guard := none }
abbrev wyfinishes6 : Oper := { dst := some 9, op := Go.Op.call { callee := Go.Callee.value (Go.Operand.func 277), args := #[Go.Operand.tmp 8], argTypes := #[3] }, type := 53, pos := "box.go:56", after := #[{ on := 5, ground := Go.Ground.data }, { on := 3, ground := Go.Ground.chain }], guard := none }
abbrev wyfinishes7 : Oper := { dst := some 10, op := Go.Op.build 171 #[(0, Go.Operand.tmp 6), (1, Go.Operand.tmp 9)], type := 171, pos := "box.go:56", after := #[{ on := 3, ground := Go.Ground.data }, { on := 6, ground := Go.Ground.data }], guard := none }
abbrev wyfinishes8 : Oper := { dst := none, op := Go.Op.store 171 (Go.Operand.tmp 2) (Go.Operand.tmp 10), type := 0, pos := "box.go:56", after := #[{ on := 7, ground := Go.Ground.data }, { on := 6, ground := Go.Ground.chain }, { on := 0, ground := Go.Ground.phase }, { on := 1, ground := Go.Ground.phase }, { on := 2, ground := Go.Ground.phase }, { on := 3, ground := Go.Ground.phase }, { on := 4, ground := Go.Ground.phase }, { on := 5, ground := Go.Ground.phase }, { on := 6, ground := Go.Ground.phase }, { on := 7, ground := Go.Ground.phase }], guard := none }
theorem finishes_way (S T : Int) (w : World) (h1 : 0 ≤ S) (h2 : S ≤ 4000000) (h3 : 0 ≤ T) (h4 : T ≤ 4000000) : Calls Tryz.prog 224 #[.agg #[.int .i64 S, .int .i64 T]] w fun e w' => e = .returned (.agg #[.int .i64 (0), .int .i64 (S - 1), .int .i64 (T), .int .i64 (T)]) ∧ Kp w w' := by
 obtain ⟨W0, hW⟩ : ∃ x, x = (w.alloc (.cells #[.int .i64 S, .int .i64 T] 172)).alloc (.cells #[.int .i64 0, .int .i64 0, .int .i64 0, .int .i64 0] 171) := ⟨_, rfl⟩
 have k0 : Kp w W0 := by rw [hW]; exact (Kp.alloc _ _).trans (Kp.alloc _ _)
 have gA : W0.heap[w.heap.size]? = some (.cells #[.int .i64 S, .int .i64 T] 172 (0, 0)) := by rw [hW]; exact heap_block (Kp.alloc _ _) (heap_at _ _ _ rfl)
 have gB : W0.heap[w.heap.size + 1]? = some (.cells #[.int .i64 0, .int .i64 0, .int .i64 0, .int .i64 0] 171 (0, 0)) := by rw [hW]; exact heap_at _ _ _ (by simp)
 have hz : W0.heap.size = w.heap.size + 2 := by rw [hW]; simp
 have K0 := Lib.hid k0
 have GB := Lib.hid (fun w1 (q : Kp W0 w1) => heap_block q gB)
 have KS := Lib.hid (fun w' (kq : Kp W0 w') => show w'.cell? ⟨w.heap.size, 0, none⟩ = some (.int .i64 S) ∧ w'.cell? ⟨w.heap.size, 1, none⟩ = some (.int .i64 T) ∧ Kp W0 w' from ⟨(row2 (heap_block kq gA)).1, (row2 (heap_block kq gA)).2, kq⟩)
 have k00 : Kp W0 W0 := Kp.refl _
 have wS1 : IntKind.i64.wrap (S + 1) = S + 1 := by rw [IntKind.wrap_i64]; omega
 have wS2 : IntKind.i64.wrap (S - 1) = S - 1 := by rw [IntKind.wrap_i64]; omega
 have wS3 : IntKind.i64.wrap (S - 2) = S - 2 := by rw [IntKind.wrap_i64]; omega
 have wT1 : IntKind.i64.wrap (T + 1) = T + 1 := by rw [IntKind.wrap_i64]; omega
 have wT2 : IntKind.i64.wrap (T - 1) = T - 1 := by rw [IntKind.wrap_i64]; omega
 have wT3 : IntKind.i64.wrap (T + 2) = T + 2 := by rw [IntKind.wrap_i64]; omega
 have HW := Lib.hid hW
 clear hW gA gB k0
 go_enter Tryz.func224, Tryz.ntmps224
 go_upto_region 1 with fail
 rw [← HW.out]
 refine wp_region_held_drew (S := fun w' => w'.cell? ⟨w.heap.size, 0, none⟩ = some (.int .i64 S) ∧ w'.cell? ⟨w.heap.size, 1, none⟩ = some (.int .i64 T)) (by kernel_rfl) ?_ (fun hHeld0 => ?_)
 ·(try dsimp only); exact ⟨(KS.out _ (by first | with_reducible exact k00 | ((repeat (first | with_reducible refine Kp.trans ?_ (Kp.drew _) | with_reducible refine Kp.trans ?_ (Kp.alloc _ _))); with_reducible exact k00))).1, (KS.out _ (by first | with_reducible exact k00 | ((repeat (first | with_reducible refine Kp.trans ?_ (Kp.drew _) | with_reducible refine Kp.trans ?_ (Kp.alloc _ _))); with_reducible exact k00))).2.1⟩
 refine tkv 0 wyfinishes0 ?_
 (try simp only [Act.put, wyfinishes0, List.setIfInBounds_toArray, List.set_cons_zero, List.set_cons_succ])
 refine tkv 1 wyfinishes1 ?_
 (try simp only [Act.put, wyfinishes1, List.setIfInBounds_toArray, List.set_cons_zero, List.set_cons_succ])
 refine tkv 2 wyfinishes2 ?_
 (try simp only [Act.put, wyfinishes2, List.setIfInBounds_toArray, List.set_cons_zero, List.set_cons_succ])
 refine tkv 4 wyfinishes4 ?_
 (try simp only [Act.put, wyfinishes4, List.setIfInBounds_toArray, List.set_cons_zero, List.set_cons_succ])
 refine tkv 5 wyfinishes5 ?_
 (try simp only [Act.put, wyfinishes5, List.setIfInBounds_toArray, List.set_cons_zero, List.set_cons_succ])
 refine tkE 3 wyfinishes3 rfl (by kernel_rfl) (fun K hK => ?_)
 go_simp
 (refine (upTo_any _ _).mono ?_; rintro e w1 ⟨rfl, kq1⟩; have kw1 : Kp W0 w1 := Kp.trans (show Kp W0 _ from (by first | with_reducible exact k00 | ((repeat (first | with_reducible refine Kp.trans ?_ (Kp.drew _) | with_reducible refine Kp.trans ?_ (Kp.alloc _ _))); with_reducible exact k00))) kq1; clear kq1)
 (try go_wp2_with fail)
 refine hK.out _ _ ?_ (fun hHeld1 => ?_)
 ·(try dsimp only); exact ⟨(KS.out _ (by first | with_reducible exact kw1 | ((repeat (first | with_reducible refine Kp.trans ?_ (Kp.drew _) | with_reducible refine Kp.trans ?_ (Kp.alloc _ _))); with_reducible exact kw1))).1, (KS.out _ (by first | with_reducible exact kw1 | ((repeat (first | with_reducible refine Kp.trans ?_ (Kp.drew _) | with_reducible refine Kp.trans ?_ (Kp.alloc _ _))); with_reducible exact kw1))).2.1⟩
 clear hK K hHeld0
 (try simp only [Act.put, wyfinishes3, List.setIfInBounds_toArray, List.set_cons_zero, List.set_cons_succ])
 refine tkE 6 wyfinishes6 rfl (by kernel_rfl) (fun K hK => ?_)
 go_simp
 (refine (just_any _ _).mono ?_; rintro e w2 ⟨rfl, kq1⟩; have kw2 : Kp W0 w2 := Kp.trans (show Kp W0 _ from (by first | with_reducible exact kw1 | ((repeat (first | with_reducible refine Kp.trans ?_ (Kp.drew _) | with_reducible refine Kp.trans ?_ (Kp.alloc _ _))); with_reducible exact kw1))) kq1; clear kq1)
 (try go_wp2_with fail)
 refine hK.out _ _ ?_ (fun hHeld2 => ?_)
 ·(try dsimp only); exact ⟨(KS.out _ (by first | with_reducible exact kw2 | ((repeat (first | with_reducible refine Kp.trans ?_ (Kp.drew _) | with_reducible refine Kp.trans ?_ (Kp.alloc _ _))); with_reducible exact kw2))).1, (KS.out _ (by first | with_reducible exact kw2 | ((repeat (first | with_reducible refine Kp.trans ?_ (Kp.drew _) | with_reducible refine Kp.trans ?_ (Kp.alloc _ _))); with_reducible exact kw2))).2.1⟩
 clear hK K hHeld1
 (try simp only [Act.put, wyfinishes6, List.setIfInBounds_toArray, List.set_cons_zero, List.set_cons_succ])
 refine tkv 7 wyfinishes7 ?_
 (try simp only [Act.put, wyfinishes7, List.setIfInBounds_toArray, List.set_cons_zero, List.set_cons_succ])
 refine tkE 8 wyfinishes8 rfl (by kernel_rfl) (fun K hK => ?_)
 (refine bx_store (W := w) rfl 171 (.tmp 2) (.tmp 10) rfl (w.heap.size + 1) [.int .i64 (0), .int .i64 (S - 1), .int .i64 (T), .int .i64 (T)] #[.int .i64 0, .int .i64 0, .int .i64 0, .int .i64 0] (by simp [Act.eval, Act.put, wS1, wS2, wS3, wT1, wT2, wT3]) (by simp [Act.eval, Act.put, wS1, wS2, wS3, wT1, wT2, wT3]) (K0.out.trans (by first | with_reducible exact kw2 | ((repeat (first | with_reducible refine Kp.trans ?_ (Kp.drew _) | with_reducible refine Kp.trans ?_ (Kp.alloc _ _))); with_reducible exact kw2))) (by omega) (GB.out _ (by first | with_reducible exact kw2 | ((repeat (first | with_reducible refine Kp.trans ?_ (Kp.drew _) | with_reducible refine Kp.trans ?_ (Kp.alloc _ _))); with_reducible exact kw2))) (Nat.le_refl 4) (by kernel_rfl) (by kernel_rfl) (by simp [Value.oneCell']) ?_; intro F hF KF gF; have KFH := Lib.hid KF; obtain ⟨x0, x1, x2, x3⟩ := row4 gF; have qA : F.cell? ⟨w.heap.size, 0, none⟩ = some (.int .i64 S) := (by rw [hF]; have q := (KS.out _ (by first | with_reducible exact kw2 | ((repeat (first | with_reducible refine Kp.trans ?_ (Kp.drew _) | with_reducible refine Kp.trans ?_ (Kp.alloc _ _))); with_reducible exact kw2))).1; have n0 : w.heap.size ≠ w.heap.size + 1 := (by omega); simp only [World.cell?] at q ⊢; rw [bx_other n0]; exact q); have qB : F.cell? ⟨w.heap.size, 1, none⟩ = some (.int .i64 T) := (by rw [hF]; have q := (KS.out _ (by first | with_reducible exact kw2 | ((repeat (first | with_reducible refine Kp.trans ?_ (Kp.drew _) | with_reducible refine Kp.trans ?_ (Kp.alloc _ _))); with_reducible exact kw2))).2.1; have n0 : w.heap.size ≠ w.heap.size + 1 := (by omega); simp only [World.cell?] at q ⊢; rw [bx_other n0]; exact q); clear gF hF)
 (try go_wp2_with fail)
 refine hK.out _ _ ?_ (fun hHeld3 => ?_)
 ·(try dsimp only); exact ⟨qA, qB⟩
 clear hK K hHeld2
 (try simp only [Act.put, wyfinishes8, List.setIfInBounds_toArray, List.set_cons_zero, List.set_cons_succ])
 refine wpAnyH_done (by kernel_rfl) ?_ _
 go_wp2
 refine bodyPost_ret (v := .agg #[.int .i64 (0), .int .i64 (S - 1), .int .i64 (T), .int .i64 (T)]) (by simp [results, Tryz.results224, go_sem, x0, x1, x2, x3]) rfl ⟨rfl, KFH.out⟩
abbrev wyequals0 : Oper := { dst := some 3, op := Go.Op.fieldAddr 172 (Go.Operand.tmp 1) 0, type := 0, pos := "box.go:60", after := #[], guard := none }
abbrev wyequals1 : Oper := { dst := some 4, op := Go.Op.load 3 (Go.Operand.tmp 3), type := 3, pos := "box.go:60", after := #[{ on := 0, ground := Go.Ground.data }], guard := none }
abbrev wyequals2 : Oper := { dst := some 5, op := Go.Op.call { callee := Go.Callee.value (Go.Operand.func 277), args := #[Go.Operand.tmp 4], argTypes := #[3] }, type := 53, pos := "box.go:60", after := #[{ on := 1, ground := Go.Ground.data }], guard := none }
abbrev wyequals3 : Oper := { dst := some 6, op := Go.Op.fieldAddr 172 (Go.Operand.tmp 1) 1, type := 0, pos := "box.go:60", after := #[], guard := none }
abbrev wyequals4 : Oper := { dst := some 7, op := Go.Op.load 3 (Go.Operand.tmp 6), type := 3, pos := "box.go:60", after := #[{ on := 3, ground := Go.Ground.data }], guard := none }
abbrev wyequals5 : Oper := { dst := some 8, op := Go.Op.call { callee := Go.Callee.value (Go.Operand.func 277), args := #[Go.Operand.tmp 7], argTypes := #[3] }, type := 53, pos := "box.go:60", after := #[{ on := 4, ground := Go.Ground.data }, { on := 2, ground := Go.Ground.chain }], guard := none }
abbrev wyequals6 : Oper := { dst := some 9, op := Go.Op.build 171 #[(0, Go.Operand.tmp 5), (1, Go.Operand.tmp 8)], type := 171, pos := "box.go:60", after := #[{ on := 2, ground := Go.Ground.data }, { on := 5, ground := Go.Ground.data }], guard := none }
abbrev wyequals7 : Oper := { dst := none, op := Go.Op.store 171 (Go.Operand.tmp 2) (Go.Operand.tmp 9), type := 0, pos := "box.go:60", after := #[{ on := 6, ground := Go.Ground.data }, { on := 5, ground := Go.Ground.chain }, { on := 0, ground := Go.Ground.phase }, { on := 1, ground := Go.Ground.phase }, { on := 2, ground := Go.Ground.phase }, { on := 3, ground := Go.Ground.phase }, { on := 4, ground := Go.Ground.phase }, { on := 5, ground := Go.Ground.phase }, { on := 6, ground := Go.Ground.phase }], guard := none }
theorem equals_way (S T : Int) (w : World) (h1 : 0 ≤ S) (h2 : S ≤ 4000000) (h3 : 0 ≤ T) (h4 : T ≤ 4000000) : Calls Tryz.prog 225 #[.agg #[.int .i64 S, .int .i64 T]] w fun e w' => e = .returned (.agg #[.int .i64 (S), .int .i64 (S), .int .i64 (T), .int .i64 (T)]) ∧ Kp w w' := by
 obtain ⟨W0, hW⟩ : ∃ x, x = (w.alloc (.cells #[.int .i64 S, .int .i64 T] 172)).alloc (.cells #[.int .i64 0, .int .i64 0, .int .i64 0, .int .i64 0] 171) := ⟨_, rfl⟩
 have k0 : Kp w W0 := by rw [hW]; exact (Kp.alloc _ _).trans (Kp.alloc _ _)
 have gA : W0.heap[w.heap.size]? = some (.cells #[.int .i64 S, .int .i64 T] 172 (0, 0)) := by rw [hW]; exact heap_block (Kp.alloc _ _) (heap_at _ _ _ rfl)
 have gB : W0.heap[w.heap.size + 1]? = some (.cells #[.int .i64 0, .int .i64 0, .int .i64 0, .int .i64 0] 171 (0, 0)) := by rw [hW]; exact heap_at _ _ _ (by simp)
 have hz : W0.heap.size = w.heap.size + 2 := by rw [hW]; simp
 have K0 := Lib.hid k0
 have GB := Lib.hid (fun w1 (q : Kp W0 w1) => heap_block q gB)
 have KS := Lib.hid (fun w' (kq : Kp W0 w') => show w'.cell? ⟨w.heap.size, 0, none⟩ = some (.int .i64 S) ∧ w'.cell? ⟨w.heap.size, 1, none⟩ = some (.int .i64 T) ∧ Kp W0 w' from ⟨(row2 (heap_block kq gA)).1, (row2 (heap_block kq gA)).2, kq⟩)
 have k00 : Kp W0 W0 := Kp.refl _
 have wS1 : IntKind.i64.wrap (S + 1) = S + 1 := by rw [IntKind.wrap_i64]; omega
 have wS2 : IntKind.i64.wrap (S - 1) = S - 1 := by rw [IntKind.wrap_i64]; omega
 have wS3 : IntKind.i64.wrap (S - 2) = S - 2 := by rw [IntKind.wrap_i64]; omega
 have wT1 : IntKind.i64.wrap (T + 1) = T + 1 := by rw [IntKind.wrap_i64]; omega
 have wT2 : IntKind.i64.wrap (T - 1) = T - 1 := by rw [IntKind.wrap_i64]; omega
 have wT3 : IntKind.i64.wrap (T + 2) = T + 2 := by rw [IntKind.wrap_i64]; omega
 have HW := Lib.hid hW
 clear hW gA gB k0
 go_enter Tryz.func225, Tryz.ntmps225
 go_upto_region 1 with fail
 rw [← HW.out]
 refine wp_region_held_drew (S := fun w' => w'.cell? ⟨w.heap.size, 0, none⟩ = some (.int .i64 S) ∧ w'.cell? ⟨w.heap.size, 1, none⟩ = some (.int .i64 T)) (by kernel_rfl) ?_ (fun hHeld0 => ?_)
 ·(try dsimp only); exact ⟨(KS.out _ (by first | with_reducible exact k00 | ((repeat (first | with_reducible refine Kp.trans ?_ (Kp.drew _) | with_reducible refine Kp.trans ?_ (Kp.alloc _ _))); with_reducible exact k00))).1, (KS.out _ (by first | with_reducible exact k00 | ((repeat (first | with_reducible refine Kp.trans ?_ (Kp.drew _) | with_reducible refine Kp.trans ?_ (Kp.alloc _ _))); with_reducible exact k00))).2.1⟩
 refine tkv 0 wyequals0 ?_
 (try simp only [Act.put, wyequals0, List.setIfInBounds_toArray, List.set_cons_zero, List.set_cons_succ])
 refine tkv 1 wyequals1 ?_
 (try simp only [Act.put, wyequals1, List.setIfInBounds_toArray, List.set_cons_zero, List.set_cons_succ])
 refine tkv 3 wyequals3 ?_
 (try simp only [Act.put, wyequals3, List.setIfInBounds_toArray, List.set_cons_zero, List.set_cons_succ])
 refine tkv 4 wyequals4 ?_
 (try simp only [Act.put, wyequals4, List.setIfInBounds_toArray, List.set_cons_zero, List.set_cons_succ])
 refine tkE 2 wyequals2 rfl (by kernel_rfl) (fun K hK => ?_)
 go_simp
 (refine (just_any _ _).mono ?_; rintro e w1 ⟨rfl, kq1⟩; have kw1 : Kp W0 w1 := Kp.trans (show Kp W0 _ from (by first | with_reducible exact k00 | ((repeat (first | with_reducible refine Kp.trans ?_ (Kp.drew _) | with_reducible refine Kp.trans ?_ (Kp.alloc _ _))); with_reducible exact k00))) kq1; clear kq1)
 (try go_wp2_with fail)
 refine hK.out _ _ ?_ (fun hHeld1 => ?_)
 ·(try dsimp only); exact ⟨(KS.out _ (by first | with_reducible exact kw1 | ((repeat (first | with_reducible refine Kp.trans ?_ (Kp.drew _) | with_reducible refine Kp.trans ?_ (Kp.alloc _ _))); with_reducible exact kw1))).1, (KS.out _ (by first | with_reducible exact kw1 | ((repeat (first | with_reducible refine Kp.trans ?_ (Kp.drew _) | with_reducible refine Kp.trans ?_ (Kp.alloc _ _))); with_reducible exact kw1))).2.1⟩
 clear hK K hHeld0
 (try simp only [Act.put, wyequals2, List.setIfInBounds_toArray, List.set_cons_zero, List.set_cons_succ])
 refine tkE 5 wyequals5 rfl (by kernel_rfl) (fun K hK => ?_)
 go_simp
 (refine (just_any _ _).mono ?_; rintro e w2 ⟨rfl, kq1⟩; have kw2 : Kp W0 w2 := Kp.trans (show Kp W0 _ from (by first | with_reducible exact kw1 | ((repeat (first | with_reducible refine Kp.trans ?_ (Kp.drew _) | with_reducible refine Kp.trans ?_ (Kp.alloc _ _))); with_reducible exact kw1))) kq1; clear kq1)
 (try go_wp2_with fail)
 refine hK.out _ _ ?_ (fun hHeld2 => ?_)
 ·(try dsimp only); exact ⟨(KS.out _ (by first | with_reducible exact kw2 | ((repeat (first | with_reducible refine Kp.trans ?_ (Kp.drew _) | with_reducible refine Kp.trans ?_ (Kp.alloc _ _))); with_reducible exact kw2))).1, (KS.out _ (by first | with_reducible exact kw2 | ((repeat (first | with_reducible refine Kp.trans ?_ (Kp.drew _) | with_reducible refine Kp.trans ?_ (Kp.alloc _ _))); with_reducible exact kw2))).2.1⟩
 clear hK K hHeld1
 (try simp only [Act.put, wyequals5, List.setIfInBounds_toArray, List.set_cons_zero, List.set_cons_succ])
 refine tkv 6 wyequals6 ?_
 (try simp only [Act.put, wyequals6, List.setIfInBounds_toArray, List.set_cons_zero, List.set_cons_succ])
 refine tkE 7 wyequals7 rfl (by kernel_rfl) (fun K hK => ?_)
 (refine bx_store (W := w) rfl 171 (.tmp 2) (.tmp 9) rfl (w.heap.size + 1) [.int .i64 (S), .int .i64 (S), .int .i64 (T), .int .i64 (T)] #[.int .i64 0, .int .i64 0, .int .i64 0, .int .i64 0] (by simp [Act.eval, Act.put, wS1, wS2, wS3, wT1, wT2, wT3]) (by simp [Act.eval, Act.put, wS1, wS2, wS3, wT1, wT2, wT3]) (K0.out.trans (by first | with_reducible exact kw2 | ((repeat (first | with_reducible refine Kp.trans ?_ (Kp.drew _) | with_reducible refine Kp.trans ?_ (Kp.alloc _ _))); with_reducible exact kw2))) (by omega) (GB.out _ (by first | with_reducible exact kw2 | ((repeat (first | with_reducible refine Kp.trans ?_ (Kp.drew _) | with_reducible refine Kp.trans ?_ (Kp.alloc _ _))); with_reducible exact kw2))) (Nat.le_refl 4) (by kernel_rfl) (by kernel_rfl) (by simp [Value.oneCell']) ?_; intro F hF KF gF; have KFH := Lib.hid KF; obtain ⟨x0, x1, x2, x3⟩ := row4 gF; have qA : F.cell? ⟨w.heap.size, 0, none⟩ = some (.int .i64 S) := (by rw [hF]; have q := (KS.out _ (by first | with_reducible exact kw2 | ((repeat (first | with_reducible refine Kp.trans ?_ (Kp.drew _) | with_reducible refine Kp.trans ?_ (Kp.alloc _ _))); with_reducible exact kw2))).1; have n0 : w.heap.size ≠ w.heap.size + 1 := (by omega); simp only [World.cell?] at q ⊢; rw [bx_other n0]; exact q); have qB : F.cell? ⟨w.heap.size, 1, none⟩ = some (.int .i64 T) := (by rw [hF]; have q := (KS.out _ (by first | with_reducible exact kw2 | ((repeat (first | with_reducible refine Kp.trans ?_ (Kp.drew _) | with_reducible refine Kp.trans ?_ (Kp.alloc _ _))); with_reducible exact kw2))).2.1; have n0 : w.heap.size ≠ w.heap.size + 1 := (by omega); simp only [World.cell?] at q ⊢; rw [bx_other n0]; exact q); clear gF hF)
 (try go_wp2_with fail)
 refine hK.out _ _ ?_ (fun hHeld3 => ?_)
 ·(try dsimp only); exact ⟨qA, qB⟩
 clear hK K hHeld2
 (try simp only [Act.put, wyequals7, List.setIfInBounds_toArray, List.set_cons_zero, List.set_cons_succ])
 refine wpAnyH_done (by kernel_rfl) ?_ _
 go_wp2
 refine bodyPost_ret (v := .agg #[.int .i64 (S), .int .i64 (S), .int .i64 (T), .int .i64 (T)]) (by simp [results, Tryz.results225, go_sem, x0, x1, x2, x3]) rfl ⟨rfl, KFH.out⟩
abbrev wyfinishedBy0 : Oper := { dst := some 3, op := Go.Op.fieldAddr 172 (Go.Operand.tmp 1) 0, type := 0, pos := "box.go:64", after := #[], guard := none }
abbrev wyfinishedBy1 : Oper := { dst := some 4, op := Go.Op.load 3 (Go.Operand.tmp 3), type := 3, pos := "box.go:64", after := #[{ on := 0, ground := Go.Ground.data }], guard := none }
abbrev wyfinishedBy2 : Oper := { dst := some 5, op := Go.Op.binOp Go.BinOp.add 3 (Go.Operand.tmp 4) (Go.Operand.const (Go.Value.int Go.IntKind.i64 1)) 3, type := 3, pos := "box.go:64", after := #[{ on := 1, ground := Go.Ground.data }], guard := none }
abbrev wyfinishedBy3 : Oper := { dst := some 6, op := Go.Op.call { callee := Go.Callee.value (Go.Operand.func 275), args := #[Go.Operand.tmp 5], argTypes := #[3] }, type := 53, pos := "box.go:64", after := #[{ on := 2, ground := Go.Ground.data }], guard := none }
abbrev wyfinishedBy4 : Oper := { dst := some 7, op := Go.Op.fieldAddr 172 (Go.Operand.tmp 1) 1, type := 0, pos := "box.go:64", after := #[], guard := none }
abbrev wyfinishedBy5 : Oper := { dst := some 8, op := Go.Op.load 3 (Go.Operand.tmp 7), type := 3, pos := "box.go:64", after := #[{ on := 4, ground := Go.Ground.data }], guard := none }
abbrev wyfinishedBy6 : Oper := { dst := some 9, op := Go.Op.call { callee := Go.Callee.value (Go.Operand.func 277), args := #[Go.Operand.tmp 8], argTypes := #[3] }, type := 53, pos := "box.go:64", after := #[{ on := 5, ground := Go.Ground.data }, { on := 3, ground := Go.Ground.chain }], guard := none }
abbrev wyfinishedBy7 : Oper := { dst := some 10, op := Go.Op.build 171 #[(0, Go.Operand.tmp 6), (1, Go.Operand.tmp 9)], type := 171, pos := "box.go:64", after := #[{ on := 3, ground := Go.Ground.data }, { on := 6, ground := Go.Ground.data }], guard := none }
abbrev wyfinishedBy8 : Oper := { dst := none, op := Go.Op.store 171 (Go.Operand.tmp 2) (Go.Operand.tmp 10), type := 0, pos := "box.go:64", after := #[{ on := 7, ground := Go.Ground.data }, { on := 6, ground := Go.Ground.chain }, { on := 0, ground := Go.Ground.phase }, { on := 1, ground := Go.Ground.phase }, { on := 2, ground := Go.Ground.phase }, { on := 3, ground := Go.Ground.phase }, { on := 4, ground := Go.Ground.phase }, { on := 5, ground := Go.Ground.phase }, { on := 6, ground := Go.Ground.phase }, { on := 7, ground := Go.Ground.phase }], guard := none }
theorem finishedBy_way (S T : Int) (w : World) (h1 : 0 ≤ S) (h2 : S ≤ 4000000) (h3 : 0 ≤ T) (h4 : T ≤ 4000000) : Calls Tryz.prog 226 #[.agg #[.int .i64 S, .int .i64 T]] w fun e w' => e = .returned (.agg #[.int .i64 (S + 1), .int .i64 (3652424), .int .i64 (T), .int .i64 (T)]) ∧ Kp w w' := by
 obtain ⟨W0, hW⟩ : ∃ x, x = (w.alloc (.cells #[.int .i64 S, .int .i64 T] 172)).alloc (.cells #[.int .i64 0, .int .i64 0, .int .i64 0, .int .i64 0] 171) := ⟨_, rfl⟩
 have k0 : Kp w W0 := by rw [hW]; exact (Kp.alloc _ _).trans (Kp.alloc _ _)
 have gA : W0.heap[w.heap.size]? = some (.cells #[.int .i64 S, .int .i64 T] 172 (0, 0)) := by rw [hW]; exact heap_block (Kp.alloc _ _) (heap_at _ _ _ rfl)
 have gB : W0.heap[w.heap.size + 1]? = some (.cells #[.int .i64 0, .int .i64 0, .int .i64 0, .int .i64 0] 171 (0, 0)) := by rw [hW]; exact heap_at _ _ _ (by simp)
 have hz : W0.heap.size = w.heap.size + 2 := by rw [hW]; simp
 have K0 := Lib.hid k0
 have GB := Lib.hid (fun w1 (q : Kp W0 w1) => heap_block q gB)
 have KS := Lib.hid (fun w' (kq : Kp W0 w') => show w'.cell? ⟨w.heap.size, 0, none⟩ = some (.int .i64 S) ∧ w'.cell? ⟨w.heap.size, 1, none⟩ = some (.int .i64 T) ∧ Kp W0 w' from ⟨(row2 (heap_block kq gA)).1, (row2 (heap_block kq gA)).2, kq⟩)
 have k00 : Kp W0 W0 := Kp.refl _
 have wS1 : IntKind.i64.wrap (S + 1) = S + 1 := by rw [IntKind.wrap_i64]; omega
 have wS2 : IntKind.i64.wrap (S - 1) = S - 1 := by rw [IntKind.wrap_i64]; omega
 have wS3 : IntKind.i64.wrap (S - 2) = S - 2 := by rw [IntKind.wrap_i64]; omega
 have wT1 : IntKind.i64.wrap (T + 1) = T + 1 := by rw [IntKind.wrap_i64]; omega
 have wT2 : IntKind.i64.wrap (T - 1) = T - 1 := by rw [IntKind.wrap_i64]; omega
 have wT3 : IntKind.i64.wrap (T + 2) = T + 2 := by rw [IntKind.wrap_i64]; omega
 have HW := Lib.hid hW
 clear hW gA gB k0
 go_enter Tryz.func226, Tryz.ntmps226
 go_upto_region 1 with fail
 rw [← HW.out]
 refine wp_region_held_drew (S := fun w' => w'.cell? ⟨w.heap.size, 0, none⟩ = some (.int .i64 S) ∧ w'.cell? ⟨w.heap.size, 1, none⟩ = some (.int .i64 T)) (by kernel_rfl) ?_ (fun hHeld0 => ?_)
 ·(try dsimp only); exact ⟨(KS.out _ (by first | with_reducible exact k00 | ((repeat (first | with_reducible refine Kp.trans ?_ (Kp.drew _) | with_reducible refine Kp.trans ?_ (Kp.alloc _ _))); with_reducible exact k00))).1, (KS.out _ (by first | with_reducible exact k00 | ((repeat (first | with_reducible refine Kp.trans ?_ (Kp.drew _) | with_reducible refine Kp.trans ?_ (Kp.alloc _ _))); with_reducible exact k00))).2.1⟩
 refine tkv 0 wyfinishedBy0 ?_
 (try simp only [Act.put, wyfinishedBy0, List.setIfInBounds_toArray, List.set_cons_zero, List.set_cons_succ])
 refine tkv 1 wyfinishedBy1 ?_
 (try simp only [Act.put, wyfinishedBy1, List.setIfInBounds_toArray, List.set_cons_zero, List.set_cons_succ])
 refine tkv 2 wyfinishedBy2 ?_
 (try simp only [Act.put, wyfinishedBy2, List.setIfInBounds_toArray, List.set_cons_zero, List.set_cons_succ])
 refine tkv 4 wyfinishedBy4 ?_
 (try simp only [Act.put, wyfinishedBy4, List.setIfInBounds_toArray, List.set_cons_zero, List.set_cons_succ])
 refine tkv 5 wyfinishedBy5 ?_
 (try simp only [Act.put, wyfinishedBy5, List.setIfInBounds_toArray, List.set_cons_zero, List.set_cons_succ])
 refine tkE 3 wyfinishedBy3 rfl (by kernel_rfl) (fun K hK => ?_)
 go_simp
 (refine (from_any _ _).mono ?_; rintro e w1 ⟨rfl, kq1⟩; have kw1 : Kp W0 w1 := Kp.trans (show Kp W0 _ from (by first | with_reducible exact k00 | ((repeat (first | with_reducible refine Kp.trans ?_ (Kp.drew _) | with_reducible refine Kp.trans ?_ (Kp.alloc _ _))); with_reducible exact k00))) kq1; clear kq1)
 (try go_wp2_with fail)
 refine hK.out _ _ ?_ (fun hHeld1 => ?_)
 ·(try dsimp only); exact ⟨(KS.out _ (by first | with_reducible exact kw1 | ((repeat (first | with_reducible refine Kp.trans ?_ (Kp.drew _) | with_reducible refine Kp.trans ?_ (Kp.alloc _ _))); with_reducible exact kw1))).1, (KS.out _ (by first | with_reducible exact kw1 | ((repeat (first | with_reducible refine Kp.trans ?_ (Kp.drew _) | with_reducible refine Kp.trans ?_ (Kp.alloc _ _))); with_reducible exact kw1))).2.1⟩
 clear hK K hHeld0
 (try simp only [Act.put, wyfinishedBy3, List.setIfInBounds_toArray, List.set_cons_zero, List.set_cons_succ])
 refine tkE 6 wyfinishedBy6 rfl (by kernel_rfl) (fun K hK => ?_)
 go_simp
 (refine (just_any _ _).mono ?_; rintro e w2 ⟨rfl, kq1⟩; have kw2 : Kp W0 w2 := Kp.trans (show Kp W0 _ from (by first | with_reducible exact kw1 | ((repeat (first | with_reducible refine Kp.trans ?_ (Kp.drew _) | with_reducible refine Kp.trans ?_ (Kp.alloc _ _))); with_reducible exact kw1))) kq1; clear kq1)
 (try go_wp2_with fail)
 refine hK.out _ _ ?_ (fun hHeld2 => ?_)
 ·(try dsimp only); exact ⟨(KS.out _ (by first | with_reducible exact kw2 | ((repeat (first | with_reducible refine Kp.trans ?_ (Kp.drew _) | with_reducible refine Kp.trans ?_ (Kp.alloc _ _))); with_reducible exact kw2))).1, (KS.out _ (by first | with_reducible exact kw2 | ((repeat (first | with_reducible refine Kp.trans ?_ (Kp.drew _) | with_reducible refine Kp.trans ?_ (Kp.alloc _ _))); with_reducible exact kw2))).2.1⟩
 clear hK K hHeld1
 (try simp only [Act.put, wyfinishedBy6, List.setIfInBounds_toArray, List.set_cons_zero, List.set_cons_succ])
 refine tkv 7 wyfinishedBy7 ?_
 (try simp only [Act.put, wyfinishedBy7, List.setIfInBounds_toArray, List.set_cons_zero, List.set_cons_succ])
 refine tkE 8 wyfinishedBy8 rfl (by kernel_rfl) (fun K hK => ?_)
 (refine bx_store (W := w) rfl 171 (.tmp 2) (.tmp 10) rfl (w.heap.size + 1) [.int .i64 (S + 1), .int .i64 (3652424), .int .i64 (T), .int .i64 (T)] #[.int .i64 0, .int .i64 0, .int .i64 0, .int .i64 0] (by simp [Act.eval, Act.put, wS1, wS2, wS3, wT1, wT2, wT3]) (by simp [Act.eval, Act.put, wS1, wS2, wS3, wT1, wT2, wT3]) (K0.out.trans (by first | with_reducible exact kw2 | ((repeat (first | with_reducible refine Kp.trans ?_ (Kp.drew _) | with_reducible refine Kp.trans ?_ (Kp.alloc _ _))); with_reducible exact kw2))) (by omega) (GB.out _ (by first | with_reducible exact kw2 | ((repeat (first | with_reducible refine Kp.trans ?_ (Kp.drew _) | with_reducible refine Kp.trans ?_ (Kp.alloc _ _))); with_reducible exact kw2))) (Nat.le_refl 4) (by kernel_rfl) (by kernel_rfl) (by simp [Value.oneCell']) ?_; intro F hF KF gF; have KFH := Lib.hid KF; obtain ⟨x0, x1, x2, x3⟩ := row4 gF; have qA : F.cell? ⟨w.heap.size, 0, none⟩ = some (.int .i64 S) := (by rw [hF]; have q := (KS.out _ (by first | with_reducible exact kw2 | ((repeat (first | with_reducible refine Kp.trans ?_ (Kp.drew _) | with_reducible refine Kp.trans ?_ (Kp.alloc _ _))); with_reducible exact kw2))).1; have n0 : w.heap.size ≠ w.heap.size + 1 := (by omega); simp only [World.cell?] at q ⊢; rw [bx_other n0]; exact q); have qB : F.cell? ⟨w.heap.size, 1, none⟩ = some (.int .i64 T) := (by rw [hF]; have q := (KS.out _ (by first | with_reducible exact kw2 | ((repeat (first | with_reducible refine Kp.trans ?_ (Kp.drew _) | with_reducible refine Kp.trans ?_ (Kp.alloc _ _))); with_reducible exact kw2))).2.1; have n0 : w.heap.size ≠ w.heap.size + 1 := (by omega); simp only [World.cell?] at q ⊢; rw [bx_other n0]; exact q); clear gF hF)
 (try go_wp2_with fail)
 refine hK.out _ _ ?_ (fun hHeld3 => ?_)
 ·(try dsimp only); exact ⟨qA, qB⟩
 clear hK K hHeld2
 (try simp only [Act.put, wyfinishedBy8, List.setIfInBounds_toArray, List.set_cons_zero, List.set_cons_succ])
 refine wpAnyH_done (by kernel_rfl) ?_ _
 go_wp2
 refine bodyPost_ret (v := .agg #[.int .i64 (S + 1), .int .i64 (3652424), .int .i64 (T), .int .i64 (T)]) (by simp [results, Tryz.results226, go_sem, x0, x1, x2, x3]) rfl ⟨rfl, KFH.out⟩
abbrev wycontains0 : Oper := { dst := some 3, op := Go.Op.fieldAddr 172 (Go.Operand.tmp 1) 0, type := 0, pos := "box.go:68", after := #[], guard := none }
abbrev wycontains1 : Oper := { dst := some 4, op := Go.Op.load 3 (Go.Operand.tmp 3), type := 3, pos := "box.go:68", after := #[{ on := 0, ground := Go.Ground.data }], guard := none }
abbrev wycontains2 : Oper := { dst := some 5, op := Go.Op.binOp Go.BinOp.add 3 (Go.Operand.tmp 4) (Go.Operand.const (Go.Value.int Go.IntKind.i64 1)) 3, type := 3, pos := "box.go:68", after := #[{ on := 1, ground := Go.Ground.data }], guard := none }
abbrev wycontains3 : Oper := { dst := some 6, op := Go.Op.call { callee := Go.Callee.value (Go.Operand.func 275), args := #[Go.Operand.tmp 5], argTypes := #[3] }, type := 53, pos := "box.go:68", after := #[{ on := 2, ground := Go.Ground.data }], guard := none }
abbrev wycontains4 : Oper := { dst := some 7, op := Go.Op.fieldAddr 172 (Go.Operand.tmp 1) 1, type := 0, pos := "box.go:68", after := #[], guard := none }
abbrev wycontains5 : Oper := { dst := some 8, op := Go.Op.load 3 (Go.Operand.tmp 7), type := 3, pos := "box.go:68", after := #[{ on := 4, ground := Go.Ground.data }], guard := none }
abbrev wycontains6 : Oper := { dst := some 9, op := Go.Op.binOp Go.BinOp.sub 3 (Go.Operand.tmp 8) (Go.Operand.const (Go.Value.int Go.IntKind.i64 1)) 3, type := 3, pos := "box.go:68", after := #[{ on := 5, ground := Go.Ground.data }], guard := none }
abbrev wycontains7 : Oper := { dst := some 10, op := Go.Op.call { callee := Go.Callee.value (Go.Operand.func 278), args := #[Go.Operand.tmp 9], argTypes := #[3] }, type := 53, pos := "box.go:68", after := #[{ on := 6, ground := Go.Ground.data }, { on := 3, ground := Go.Ground.chain }], guard := none }
abbrev wycontains8 : Oper := { dst := some 11, op := Go.Op.build 171 #[(0, Go.Operand.tmp 6), (1, Go.Operand.tmp 10)], type := 171, pos := "box.go:68", after := #[{ on := 3, ground := Go.Ground.data }, { on := 7, ground := Go.Ground.data }], guard := none }
abbrev wycontains9 : Oper := { dst := none, op := Go.Op.store 171 (Go.Operand.tmp 2) (Go.Operand.tmp 11), type := 0, pos := "box.go:68", after := #[{ on := 8, ground := Go.Ground.data }, { on := 7, ground := Go.Ground.chain }, { on := 0, ground := Go.Ground.phase }, { on := 1, ground := Go.Ground.phase }, { on := 2, ground := Go.Ground.phase }, { on := 3, ground := Go.Ground.phase }, { on := 4, ground := Go.Ground.phase }, { on := 5, ground := Go.Ground.phase }, { on := 6, ground := Go.Ground.phase }, { on := 7, ground := Go.Ground.phase }, { on := 8, ground := Go.Ground.phase }], guard := none }
theorem contains_way (S T : Int) (w : World) (h1 : 0 ≤ S) (h2 : S ≤ 4000000) (h3 : 0 ≤ T) (h4 : T ≤ 4000000) : Calls Tryz.prog 227 #[.agg #[.int .i64 S, .int .i64 T]] w fun e w' => e = .returned (.agg #[.int .i64 (S + 1), .int .i64 (3652424), .int .i64 (0), .int .i64 (T - 1)]) ∧ Kp w w' := by
 obtain ⟨W0, hW⟩ : ∃ x, x = (w.alloc (.cells #[.int .i64 S, .int .i64 T] 172)).alloc (.cells #[.int .i64 0, .int .i64 0, .int .i64 0, .int .i64 0] 171) := ⟨_, rfl⟩
 have k0 : Kp w W0 := by rw [hW]; exact (Kp.alloc _ _).trans (Kp.alloc _ _)
 have gA : W0.heap[w.heap.size]? = some (.cells #[.int .i64 S, .int .i64 T] 172 (0, 0)) := by rw [hW]; exact heap_block (Kp.alloc _ _) (heap_at _ _ _ rfl)
 have gB : W0.heap[w.heap.size + 1]? = some (.cells #[.int .i64 0, .int .i64 0, .int .i64 0, .int .i64 0] 171 (0, 0)) := by rw [hW]; exact heap_at _ _ _ (by simp)
 have hz : W0.heap.size = w.heap.size + 2 := by rw [hW]; simp
 have K0 := Lib.hid k0
 have GB := Lib.hid (fun w1 (q : Kp W0 w1) => heap_block q gB)
 have KS := Lib.hid (fun w' (kq : Kp W0 w') => show w'.cell? ⟨w.heap.size, 0, none⟩ = some (.int .i64 S) ∧ w'.cell? ⟨w.heap.size, 1, none⟩ = some (.int .i64 T) ∧ Kp W0 w' from ⟨(row2 (heap_block kq gA)).1, (row2 (heap_block kq gA)).2, kq⟩)
 have k00 : Kp W0 W0 := Kp.refl _
 have wS1 : IntKind.i64.wrap (S + 1) = S + 1 := by rw [IntKind.wrap_i64]; omega
 have wS2 : IntKind.i64.wrap (S - 1) = S - 1 := by rw [IntKind.wrap_i64]; omega
 have wS3 : IntKind.i64.wrap (S - 2) = S - 2 := by rw [IntKind.wrap_i64]; omega
 have wT1 : IntKind.i64.wrap (T + 1) = T + 1 := by rw [IntKind.wrap_i64]; omega
 have wT2 : IntKind.i64.wrap (T - 1) = T - 1 := by rw [IntKind.wrap_i64]; omega
 have wT3 : IntKind.i64.wrap (T + 2) = T + 2 := by rw [IntKind.wrap_i64]; omega
 have HW := Lib.hid hW
 clear hW gA gB k0
 go_enter Tryz.func227, Tryz.ntmps227
 go_upto_region 1 with fail
 rw [← HW.out]
 refine wp_region_held_drew (S := fun w' => w'.cell? ⟨w.heap.size, 0, none⟩ = some (.int .i64 S) ∧ w'.cell? ⟨w.heap.size, 1, none⟩ = some (.int .i64 T)) (by kernel_rfl) ?_ (fun hHeld0 => ?_)
 ·(try dsimp only); exact ⟨(KS.out _ (by first | with_reducible exact k00 | ((repeat (first | with_reducible refine Kp.trans ?_ (Kp.drew _) | with_reducible refine Kp.trans ?_ (Kp.alloc _ _))); with_reducible exact k00))).1, (KS.out _ (by first | with_reducible exact k00 | ((repeat (first | with_reducible refine Kp.trans ?_ (Kp.drew _) | with_reducible refine Kp.trans ?_ (Kp.alloc _ _))); with_reducible exact k00))).2.1⟩
 refine tkv 0 wycontains0 ?_
 (try simp only [Act.put, wycontains0, List.setIfInBounds_toArray, List.set_cons_zero, List.set_cons_succ])
 refine tkv 1 wycontains1 ?_
 (try simp only [Act.put, wycontains1, List.setIfInBounds_toArray, List.set_cons_zero, List.set_cons_succ])
 refine tkv 2 wycontains2 ?_
 (try simp only [Act.put, wycontains2, List.setIfInBounds_toArray, List.set_cons_zero, List.set_cons_succ])
 refine tkv 4 wycontains4 ?_
 (try simp only [Act.put, wycontains4, List.setIfInBounds_toArray, List.set_cons_zero, List.set_cons_succ])
 refine tkv 5 wycontains5 ?_
 (try simp only [Act.put, wycontains5, List.setIfInBounds_toArray, List.set_cons_zero, List.set_cons_succ])
 refine tkv 6 wycontains6 ?_
 (try simp only [Act.put, wycontains6, List.setIfInBounds_toArray, List.set_cons_zero, List.set_cons_succ])
 refine tkE 3 wycontains3 rfl (by kernel_rfl) (fun K hK => ?_)
 go_simp
 (refine (from_any _ _).mono ?_; rintro e w1 ⟨rfl, kq1⟩; have kw1 : Kp W0 w1 := Kp.trans (show Kp W0 _ from (by first | with_reducible exact k00 | ((repeat (first | with_reducible refine Kp.trans ?_ (Kp.drew _) | with_reducible refine Kp.trans ?_ (Kp.alloc _ _))); with_reducible exact k00))) kq1; clear kq1)
 (try go_wp2_with fail)
 refine hK.out _ _ ?_ (fun hHeld1 => ?_)
 ·(try dsimp only); exact ⟨(KS.out _ (by first | with_reducible exact kw1 | ((repeat (first | with_reducible refine Kp.trans ?_ (Kp.drew _) | with_reducible refine Kp.trans ?_ (Kp.alloc _ _))); with_reducible exact kw1))).1, (KS.out _ (by first | with_reducible exact kw1 | ((repeat (first | with_reducible refine Kp.trans ?_ (Kp.drew _) | with_reducible refine Kp.trans ?_ (Kp.alloc _ _))); with_reducible exact kw1))).2.1⟩
 clear hK K hHeld0
 (try simp only [Act.put, wycontains3, List.setIfInBounds_toArray, List.set_cons_zero, List.set_cons_succ])
 refine tkE 7 wycontains7 rfl (by kernel_rfl) (fun K hK => ?_)
 go_simp
 (refine (upTo_any _ _).mono ?_; rintro e w2 ⟨rfl, kq1⟩; have kw2 : Kp W0 w2 := Kp.trans (show Kp W0 _ from (by first | with_reducible exact kw1 | ((repeat (first | with_reducible refine Kp.trans ?_ (Kp.drew _) | with_reducible refine Kp.trans ?_ (Kp.alloc _ _))); with_reducible exact kw1))) kq1; clear kq1)
 (try go_wp2_with fail)
 refine hK.out _ _ ?_ (fun hHeld2 => ?_)
 ·(try dsimp only); exact ⟨(KS.out _ (by first | with_reducible exact kw2 | ((repeat (first | with_reducible refine Kp.trans ?_ (Kp.drew _) | with_reducible refine Kp.trans ?_ (Kp.alloc _ _))); with_reducible exact kw2))).1, (KS.out _ (by first | with_reducible exact kw2 | ((repeat (first | with_reducible refine Kp.trans ?_ (Kp.drew _) | with_reducible refine Kp.trans ?_ (Kp.alloc _ _))); with_reducible exact kw2))).2.1⟩
 clear hK K hHeld1
 (try simp only [Act.put, wycontains7, List.setIfInBounds_toArray, List.set_cons_zero, List.set_cons_succ])
 refine tkv 8 wycontains8 ?_
 (try simp only [Act.put, wycontains8, List.setIfInBounds_toArray, List.set_cons_zero, List.set_cons_succ])
 refine tkE 9 wycontains9 rfl (by kernel_rfl) (fun K hK => ?_)
 (refine bx_store (W := w) rfl 171 (.tmp 2) (.tmp 11) rfl (w.heap.size + 1) [.int .i64 (S + 1), .int .i64 (3652424), .int .i64 (0), .int .i64 (T - 1)] #[.int .i64 0, .int .i64 0, .int .i64 0, .int .i64 0] (by simp [Act.eval, Act.put, wS1, wS2, wS3, wT1, wT2, wT3]) (by simp [Act.eval, Act.put, wS1, wS2, wS3, wT1, wT2, wT3]) (K0.out.trans (by first | with_reducible exact kw2 | ((repeat (first | with_reducible refine Kp.trans ?_ (Kp.drew _) | with_reducible refine Kp.trans ?_ (Kp.alloc _ _))); with_reducible exact kw2))) (by omega) (GB.out _ (by first | with_reducible exact kw2 | ((repeat (first | with_reducible refine Kp.trans ?_ (Kp.drew _) | with_reducible refine Kp.trans ?_ (Kp.alloc _ _))); with_reducible exact kw2))) (Nat.le_refl 4) (by kernel_rfl) (by kernel_rfl) (by simp [Value.oneCell']) ?_; intro F hF KF gF; have KFH := Lib.hid KF; obtain ⟨x0, x1, x2, x3⟩ := row4 gF; have qA : F.cell? ⟨w.heap.size, 0, none⟩ = some (.int .i64 S) := (by rw [hF]; have q := (KS.out _ (by first | with_reducible exact kw2 | ((repeat (first | with_reducible refine Kp.trans ?_ (Kp.drew _) | with_reducible refine Kp.trans ?_ (Kp.alloc _ _))); with_reducible exact kw2))).1; have n0 : w.heap.size ≠ w.heap.size + 1 := (by omega); simp only [World.cell?] at q ⊢; rw [bx_other n0]; exact q); have qB : F.cell? ⟨w.heap.size, 1, none⟩ = some (.int .i64 T) := (by rw [hF]; have q := (KS.out _ (by first | with_reducible exact kw2 | ((repeat (first | with_reducible refine Kp.trans ?_ (Kp.drew _) | with_reducible refine Kp.trans ?_ (Kp.alloc _ _))); with_reducible exact kw2))).2.1; have n0 : w.heap.size ≠ w.heap.size + 1 := (by omega); simp only [World.cell?] at q ⊢; rw [bx_other n0]; exact q); clear gF hF)
 (try go_wp2_with fail)
 refine hK.out _ _ ?_ (fun hHeld3 => ?_)
 ·(try dsimp only); exact ⟨qA, qB⟩
 clear hK K hHeld2
 (try simp only [Act.put, wycontains9, List.setIfInBounds_toArray, List.set_cons_zero, List.set_cons_succ])
 refine wpAnyH_done (by kernel_rfl) ?_ _
 go_wp2
 refine bodyPost_ret (v := .agg #[.int .i64 (S + 1), .int .i64 (3652424), .int .i64 (0), .int .i64 (T - 1)]) (by simp [results, Tryz.results227, go_sem, x0, x1, x2, x3]) rfl ⟨rfl, KFH.out⟩
abbrev wystartedBy0 : Oper := { dst := some 3, op := Go.Op.fieldAddr 172 (Go.Operand.tmp 1) 0, type := 0, pos := "box.go:72", after := #[], guard := none }
abbrev wystartedBy1 : Oper := { dst := some 4, op := Go.Op.load 3 (Go.Operand.tmp 3), type := 3, pos := "box.go:72", after := #[{ on := 0, ground := Go.Ground.data }], guard := none }
abbrev wystartedBy2 : Oper := { dst := some 5, op := Go.Op.call { callee := Go.Callee.value (Go.Operand.func 277), args := #[Go.Operand.tmp 4], argTypes := #[3] }, type := 53, pos := "box.go:72", after := #[{ on := 1, ground := Go.Ground.data }], guard := none }
abbrev wystartedBy3 : Oper := { dst := some 6, op := Go.Op.fieldAddr 172 (Go.Operand.tmp 1) 1, type := 0, pos := "box.go:72", after := #[], guard := none }
abbrev wystartedBy4 : Oper := { dst := some 7, op := Go.Op.load 3 (Go.Operand.tmp 6), type := 3, pos := "box.go:72", after := #[{ on := 3, ground := Go.Ground.data }], guard := none }
abbrev wystartedBy5 : Oper := { dst := some 8, op := Go.Op.binOp Go.BinOp.sub 3 (Go.Operand.tmp 7) (Go.Operand.const (Go.Value.int Go.IntKind.i64 1)) 3, type := 3, pos := "box.go:72", after := #[{ on := 4, ground := Go.Ground.data }], guard := none }
abbrev wystartedBy6 : Oper := { dst := some 9, op := Go.Op.call { callee := Go.Callee.value (Go.Operand.func 278), args := #[Go.Operand.tmp 8], argTypes := #[3] }, type := 53, pos := "box.go:72", after := #[{ on := 5, ground := Go.Ground.data }, { on := 2, ground := Go.Ground.chain }], guard := none }
abbrev wystartedBy7 : Oper := { dst := some 10, op := Go.Op.build 171 #[(0, Go.Operand.tmp 5), (1, Go.Operand.tmp 9)], type := 171, pos := "box.go:72", after := #[{ on := 2, ground := Go.Ground.data }, { on := 6, ground := Go.Ground.data }], guard := none }
abbrev wystartedBy8 : Oper := { dst := none, op := Go.Op.store 171 (Go.Operand.tmp 2) (Go.Operand.tmp 10), type := 0, pos := "box.go:72", after := #[{ on := 7, ground := Go.Ground.data }, { on := 6, ground := Go.Ground.chain }, { on := 0, ground := Go.Ground.phase }, { on := 1, ground := Go.Ground.phase }, { on := 2, ground := Go.Ground.phase }, { on := 3, ground := Go.Ground.phase }, { on := 4, ground := Go.Ground.phase }, { on := 5, ground := Go.Ground.phase }, { on := 6, ground := Go.Ground.phase }, { on := 7, ground := Go.Ground.phase }], guard := none }
theorem startedBy_way (S T : Int) (w : World) (h1 : 0 ≤ S) (h2 : S ≤ 4000000) (h3 : 0 ≤ T) (h4 : T ≤ 4000000) : Calls Tryz.prog 228 #[.agg #[.int .i64 S, .int .i64 T]] w fun e w' => e = .returned (.agg #[.int .i64 (S), .int .i64 (S), .int .i64 (0), .int .i64 (T - 1)]) ∧ Kp w w' := by
 obtain ⟨W0, hW⟩ : ∃ x, x = (w.alloc (.cells #[.int .i64 S, .int .i64 T] 172)).alloc (.cells #[.int .i64 0, .int .i64 0, .int .i64 0, .int .i64 0] 171) := ⟨_, rfl⟩
 have k0 : Kp w W0 := by rw [hW]; exact (Kp.alloc _ _).trans (Kp.alloc _ _)
 have gA : W0.heap[w.heap.size]? = some (.cells #[.int .i64 S, .int .i64 T] 172 (0, 0)) := by rw [hW]; exact heap_block (Kp.alloc _ _) (heap_at _ _ _ rfl)
 have gB : W0.heap[w.heap.size + 1]? = some (.cells #[.int .i64 0, .int .i64 0, .int .i64 0, .int .i64 0] 171 (0, 0)) := by rw [hW]; exact heap_at _ _ _ (by simp)
 have hz : W0.heap.size = w.heap.size + 2 := by rw [hW]; simp
 have K0 := Lib.hid k0
 have GB := Lib.hid (fun w1 (q : Kp W0 w1) => heap_block q gB)
 have KS := Lib.hid (fun w' (kq : Kp W0 w') => show w'.cell? ⟨w.heap.size, 0, none⟩ = some (.int .i64 S) ∧ w'.cell? ⟨w.heap.size, 1, none⟩ = some (.int .i64 T) ∧ Kp W0 w' from ⟨(row2 (heap_block kq gA)).1, (row2 (heap_block kq gA)).2, kq⟩)
 have k00 : Kp W0 W0 := Kp.refl _
 have wS1 : IntKind.i64.wrap (S + 1) = S + 1 := by rw [IntKind.wrap_i64]; omega
 have wS2 : IntKind.i64.wrap (S - 1) = S - 1 := by rw [IntKind.wrap_i64]; omega
 have wS3 : IntKind.i64.wrap (S - 2) = S - 2 := by rw [IntKind.wrap_i64]; omega
 have wT1 : IntKind.i64.wrap (T + 1) = T + 1 := by rw [IntKind.wrap_i64]; omega
 have wT2 : IntKind.i64.wrap (T - 1) = T - 1 := by rw [IntKind.wrap_i64]; omega
 have wT3 : IntKind.i64.wrap (T + 2) = T + 2 := by rw [IntKind.wrap_i64]; omega
 have HW := Lib.hid hW
 clear hW gA gB k0
 go_enter Tryz.func228, Tryz.ntmps228
 go_upto_region 1 with fail
 rw [← HW.out]
 refine wp_region_held_drew (S := fun w' => w'.cell? ⟨w.heap.size, 0, none⟩ = some (.int .i64 S) ∧ w'.cell? ⟨w.heap.size, 1, none⟩ = some (.int .i64 T)) (by kernel_rfl) ?_ (fun hHeld0 => ?_)
 ·(try dsimp only); exact ⟨(KS.out _ (by first | with_reducible exact k00 | ((repeat (first | with_reducible refine Kp.trans ?_ (Kp.drew _) | with_reducible refine Kp.trans ?_ (Kp.alloc _ _))); with_reducible exact k00))).1, (KS.out _ (by first | with_reducible exact k00 | ((repeat (first | with_reducible refine Kp.trans ?_ (Kp.drew _) | with_reducible refine Kp.trans ?_ (Kp.alloc _ _))); with_reducible exact k00))).2.1⟩
 refine tkv 0 wystartedBy0 ?_
 (try simp only [Act.put, wystartedBy0, List.setIfInBounds_toArray, List.set_cons_zero, List.set_cons_succ])
 refine tkv 1 wystartedBy1 ?_
 (try simp only [Act.put, wystartedBy1, List.setIfInBounds_toArray, List.set_cons_zero, List.set_cons_succ])
 refine tkv 3 wystartedBy3 ?_
 (try simp only [Act.put, wystartedBy3, List.setIfInBounds_toArray, List.set_cons_zero, List.set_cons_succ])
 refine tkv 4 wystartedBy4 ?_
 (try simp only [Act.put, wystartedBy4, List.setIfInBounds_toArray, List.set_cons_zero, List.set_cons_succ])
 refine tkv 5 wystartedBy5 ?_
 (try simp only [Act.put, wystartedBy5, List.setIfInBounds_toArray, List.set_cons_zero, List.set_cons_succ])
 refine tkE 2 wystartedBy2 rfl (by kernel_rfl) (fun K hK => ?_)
 go_simp
 (refine (just_any _ _).mono ?_; rintro e w1 ⟨rfl, kq1⟩; have kw1 : Kp W0 w1 := Kp.trans (show Kp W0 _ from (by first | with_reducible exact k00 | ((repeat (first | with_reducible refine Kp.trans ?_ (Kp.drew _) | with_reducible refine Kp.trans ?_ (Kp.alloc _ _))); with_reducible exact k00))) kq1; clear kq1)
 (try go_wp2_with fail)
 refine hK.out _ _ ?_ (fun hHeld1 => ?_)
 ·(try dsimp only); exact ⟨(KS.out _ (by first | with_reducible exact kw1 | ((repeat (first | with_reducible refine Kp.trans ?_ (Kp.drew _) | with_reducible refine Kp.trans ?_ (Kp.alloc _ _))); with_reducible exact kw1))).1, (KS.out _ (by first | with_reducible exact kw1 | ((repeat (first | with_reducible refine Kp.trans ?_ (Kp.drew _) | with_reducible refine Kp.trans ?_ (Kp.alloc _ _))); with_reducible exact kw1))).2.1⟩
 clear hK K hHeld0
 (try simp only [Act.put, wystartedBy2, List.setIfInBounds_toArray, List.set_cons_zero, List.set_cons_succ])
 refine tkE 6 wystartedBy6 rfl (by kernel_rfl) (fun K hK => ?_)
 go_simp
 (refine (upTo_any _ _).mono ?_; rintro e w2 ⟨rfl, kq1⟩; have kw2 : Kp W0 w2 := Kp.trans (show Kp W0 _ from (by first | with_reducible exact kw1 | ((repeat (first | with_reducible refine Kp.trans ?_ (Kp.drew _) | with_reducible refine Kp.trans ?_ (Kp.alloc _ _))); with_reducible exact kw1))) kq1; clear kq1)
 (try go_wp2_with fail)
 refine hK.out _ _ ?_ (fun hHeld2 => ?_)
 ·(try dsimp only); exact ⟨(KS.out _ (by first | with_reducible exact kw2 | ((repeat (first | with_reducible refine Kp.trans ?_ (Kp.drew _) | with_reducible refine Kp.trans ?_ (Kp.alloc _ _))); with_reducible exact kw2))).1, (KS.out _ (by first | with_reducible exact kw2 | ((repeat (first | with_reducible refine Kp.trans ?_ (Kp.drew _) | with_reducible refine Kp.trans ?_ (Kp.alloc _ _))); with_reducible exact kw2))).2.1⟩
 clear hK K hHeld1
 (try simp only [Act.put, wystartedBy6, List.setIfInBounds_toArray, List.set_cons_zero, List.set_cons_succ])
 refine tkv 7 wystartedBy7 ?_
 (try simp only [Act.put, wystartedBy7, List.setIfInBounds_toArray, List.set_cons_zero, List.set_cons_succ])
 refine tkE 8 wystartedBy8 rfl (by kernel_rfl) (fun K hK => ?_)
 (refine bx_store (W := w) rfl 171 (.tmp 2) (.tmp 10) rfl (w.heap.size + 1) [.int .i64 (S), .int .i64 (S), .int .i64 (0), .int .i64 (T - 1)] #[.int .i64 0, .int .i64 0, .int .i64 0, .int .i64 0] (by simp [Act.eval, Act.put, wS1, wS2, wS3, wT1, wT2, wT3]) (by simp [Act.eval, Act.put, wS1, wS2, wS3, wT1, wT2, wT3]) (K0.out.trans (by first | with_reducible exact kw2 | ((repeat (first | with_reducible refine Kp.trans ?_ (Kp.drew _) | with_reducible refine Kp.trans ?_ (Kp.alloc _ _))); with_reducible exact kw2))) (by omega) (GB.out _ (by first | with_reducible exact kw2 | ((repeat (first | with_reducible refine Kp.trans ?_ (Kp.drew _) | with_reducible refine Kp.trans ?_ (Kp.alloc _ _))); with_reducible exact kw2))) (Nat.le_refl 4) (by kernel_rfl) (by kernel_rfl) (by simp [Value.oneCell']) ?_; intro F hF KF gF; have KFH := Lib.hid KF; obtain ⟨x0, x1, x2, x3⟩ := row4 gF; have qA : F.cell? ⟨w.heap.size, 0, none⟩ = some (.int .i64 S) := (by rw [hF]; have q := (KS.out _ (by first | with_reducible exact kw2 | ((repeat (first | with_reducible refine Kp.trans ?_ (Kp.drew _) | with_reducible refine Kp.trans ?_ (Kp.alloc _ _))); with_reducible exact kw2))).1; have n0 : w.heap.size ≠ w.heap.size + 1 := (by omega); simp only [World.cell?] at q ⊢; rw [bx_other n0]; exact q); have qB : F.cell? ⟨w.heap.size, 1, none⟩ = some (.int .i64 T) := (by rw [hF]; have q := (KS.out _ (by first | with_reducible exact kw2 | ((repeat (first | with_reducible refine Kp.trans ?_ (Kp.drew _) | with_reducible refine Kp.trans ?_ (Kp.alloc _ _))); with_reducible exact kw2))).2.1; have n0 : w.heap.size ≠ w.heap.size + 1 := (by omega); simp only [World.cell?] at q ⊢; rw [bx_other n0]; exact q); clear gF hF)
 (try go_wp2_with fail)
 refine hK.out _ _ ?_ (fun hHeld3 => ?_)
 ·(try dsimp only); exact ⟨qA, qB⟩
 clear hK K hHeld2
 (try simp only [Act.put, wystartedBy8, List.setIfInBounds_toArray, List.set_cons_zero, List.set_cons_succ])
 refine wpAnyH_done (by kernel_rfl) ?_ _
 go_wp2
 refine bodyPost_ret (v := .agg #[.int .i64 (S), .int .i64 (S), .int .i64 (0), .int .i64 (T - 1)]) (by simp [results, Tryz.results228, go_sem, x0, x1, x2, x3]) rfl ⟨rfl, KFH.out⟩
abbrev wyoverlappedBy0 : Oper := { dst := some 3, op := Go.Op.fieldAddr 172 (Go.Operand.tmp 1) 0, type := 0, pos := "box.go:76", after := #[], guard := none }
abbrev wyoverlappedBy1 : Oper := { dst := some 4, op := Go.Op.load 3 (Go.Operand.tmp 3), type := 3, pos := "box.go:76", after := #[{ on := 0, ground := Go.Ground.data }], guard := none }
abbrev wyoverlappedBy2 : Oper := { dst := some 5, op := Go.Op.binOp Go.BinOp.sub 3 (Go.Operand.tmp 4) (Go.Operand.const (Go.Value.int Go.IntKind.i64 1)) 3, type := 3, pos := "box.go:76", after := #[{ on := 1, ground := Go.Ground.data }], guard := none }
abbrev wyoverlappedBy3 : Oper := { dst := some 6, op := Go.Op.call { callee := Go.Callee.value (Go.Operand.func 278), args := #[Go.Operand.tmp 5], argTypes := #[3] }, type := 53, pos := "box.go:76", after := #[{ on := 2, ground := Go.Ground.data }], guard := none }
abbrev wyoverlappedBy4 : Oper := { dst := some 7, op := Go.Op.fieldAddr 172 (Go.Operand.tmp 1) 0, type := 0, pos := "box.go:76", after := #[], guard := none }
abbrev wyoverlappedBy5 : Oper := { dst := some 8, op := Go.Op.load 3 (Go.Operand.tmp 7), type := 3, pos := "box.go:76", after := #[{ on := 4, ground := Go.Ground.data }], guard := none }
abbrev wyoverlappedBy6 : Oper := { dst := some 9, op := Go.Op.fieldAddr 172 (Go.Operand.tmp 1) 1, type := 0, pos := "box.go:76", after := #[], guard := none }
abbrev wyoverlappedBy7 : Oper := { dst := some 10, op := Go.Op.load 3 (Go.Operand.tmp 9), type := 3, pos := "box.go:76", after := #[{ on := 6, ground := Go.Ground.data }], guard := none }
abbrev wyoverlappedBy8 : Oper := { dst := some 11, op := Go.Op.binOp Go.BinOp.sub 3 (Go.Operand.tmp 10) (Go.Operand.const (Go.Value.int Go.IntKind.i64 1)) 3, type := 3, pos := "box.go:76", after := #[{ on := 7, ground := Go.Ground.data }], guard := none }
abbrev wyoverlappedBy9 : Oper := { dst := some 12, op := Go.Op.build 53 #[(0, Go.Operand.tmp 8), (1, Go.Operand.tmp 11)], type := 53, pos := "box.go:76", after := #[{ on := 5, ground := Go.Ground.data }, { on := 8, ground := Go.Ground.data }], guard := none }
abbrev wyoverlappedBy10 : Oper := { dst := some 13, op := Go.Op.build 171 #[(0, Go.Operand.tmp 6), (1, Go.Operand.tmp 12)], type := 171, pos := "box.go:76", after := #[{ on := 3, ground := Go.Ground.data }, { on := 9, ground := Go.Ground.data }], guard := none }
abbrev wyoverlappedBy11 : Oper := { dst := none, op := Go.Op.store 171 (Go.Operand.tmp 2) (Go.Operand.tmp 13), type := 0, pos := "box.go:76", after := #[{ on := 10, ground := Go.Ground.data }, { on := 3, ground := Go.Ground.chain }, { on := 0, ground := Go.Ground.phase }, { on := 1, ground := Go.Ground.phase }, { on := 2, ground := Go.Ground.phase }, { on := 3, ground := Go.Ground.phase }, { on := 4, ground := Go.Ground.phase }, { on := 5, ground := Go.Ground.phase }, { on := 6, ground := Go.Ground.phase }, { on := 7, ground := Go.Ground.phase }, { on := 8, ground := Go.Ground.phase }, { on := 9, ground := Go.Ground.phase }, { on := 10, ground := Go.Ground.phase }], guard := none }
theorem overlappedBy_way (S T : Int) (w : World) (h1 : 0 ≤ S) (h2 : S ≤ 4000000) (h3 : 0 ≤ T) (h4 : T ≤ 4000000) : Calls Tryz.prog 229 #[.agg #[.int .i64 S, .int .i64 T]] w fun e w' => e = .returned (.agg #[.int .i64 (0), .int .i64 (S - 1), .int .i64 (S), .int .i64 (T - 1)]) ∧ Kp w w' := by
 obtain ⟨W0, hW⟩ : ∃ x, x = (w.alloc (.cells #[.int .i64 S, .int .i64 T] 172)).alloc (.cells #[.int .i64 0, .int .i64 0, .int .i64 0, .int .i64 0] 171) := ⟨_, rfl⟩
 have k0 : Kp w W0 := by rw [hW]; exact (Kp.alloc _ _).trans (Kp.alloc _ _)
 have gA : W0.heap[w.heap.size]? = some (.cells #[.int .i64 S, .int .i64 T] 172 (0, 0)) := by rw [hW]; exact heap_block (Kp.alloc _ _) (heap_at _ _ _ rfl)
 have gB : W0.heap[w.heap.size + 1]? = some (.cells #[.int .i64 0, .int .i64 0, .int .i64 0, .int .i64 0] 171 (0, 0)) := by rw [hW]; exact heap_at _ _ _ (by simp)
 have hz : W0.heap.size = w.heap.size + 2 := by rw [hW]; simp
 have K0 := Lib.hid k0
 have GB := Lib.hid (fun w1 (q : Kp W0 w1) => heap_block q gB)
 have KS := Lib.hid (fun w' (kq : Kp W0 w') => show w'.cell? ⟨w.heap.size, 0, none⟩ = some (.int .i64 S) ∧ w'.cell? ⟨w.heap.size, 1, none⟩ = some (.int .i64 T) ∧ Kp W0 w' from ⟨(row2 (heap_block kq gA)).1, (row2 (heap_block kq gA)).2, kq⟩)
 have k00 : Kp W0 W0 := Kp.refl _
 have wS1 : IntKind.i64.wrap (S + 1) = S + 1 := by rw [IntKind.wrap_i64]; omega
 have wS2 : IntKind.i64.wrap (S - 1) = S - 1 := by rw [IntKind.wrap_i64]; omega
 have wS3 : IntKind.i64.wrap (S - 2) = S - 2 := by rw [IntKind.wrap_i64]; omega
 have wT1 : IntKind.i64.wrap (T + 1) = T + 1 := by rw [IntKind.wrap_i64]; omega
 have wT2 : IntKind.i64.wrap (T - 1) = T - 1 := by rw [IntKind.wrap_i64]; omega
 have wT3 : IntKind.i64.wrap (T + 2) = T + 2 := by rw [IntKind.wrap_i64]; omega
 have HW := Lib.hid hW
 clear hW gA gB k0
 go_enter Tryz.func229, Tryz.ntmps229
 go_upto_region 1 with fail
 rw [← HW.out]
 refine wp_region_held_drew (S := fun w' => w'.cell? ⟨w.heap.size, 0, none⟩ = some (.int .i64 S) ∧ w'.cell? ⟨w.heap.size, 1, none⟩ = some (.int .i64 T)) (by kernel_rfl) ?_ (fun hHeld0 => ?_)
 ·(try dsimp only); exact ⟨(KS.out _ (by first | with_reducible exact k00 | ((repeat (first | with_reducible refine Kp.trans ?_ (Kp.drew _) | with_reducible refine Kp.trans ?_ (Kp.alloc _ _))); with_reducible exact k00))).1, (KS.out _ (by first | with_reducible exact k00 | ((repeat (first | with_reducible refine Kp.trans ?_ (Kp.drew _) | with_reducible refine Kp.trans ?_ (Kp.alloc _ _))); with_reducible exact k00))).2.1⟩
 refine tkv 0 wyoverlappedBy0 ?_
 (try simp only [Act.put, wyoverlappedBy0, List.setIfInBounds_toArray, List.set_cons_zero, List.set_cons_succ])
 refine tkv 1 wyoverlappedBy1 ?_
 (try simp only [Act.put, wyoverlappedBy1, List.setIfInBounds_toArray, List.set_cons_zero, List.set_cons_succ])
 refine tkv 2 wyoverlappedBy2 ?_
 (try simp only [Act.put, wyoverlappedBy2, List.setIfInBounds_toArray, List.set_cons_zero, List.set_cons_succ])
 refine tkv 4 wyoverlappedBy4 ?_
 (try simp only [Act.put, wyoverlappedBy4, List.setIfInBounds_toArray, List.set_cons_zero, List.set_cons_succ])
 refine tkv 5 wyoverlappedBy5 ?_
 (try simp only [Act.put, wyoverlappedBy5, List.setIfInBounds_toArray, List.set_cons_zero, List.set_cons_succ])
 refine tkv 6 wyoverlappedBy6 ?_
 (try simp only [Act.put, wyoverlappedBy6, List.setIfInBounds_toArray, List.set_cons_zero, List.set_cons_succ])
 refine tkv 7 wyoverlappedBy7 ?_
 (try simp only [Act.put, wyoverlappedBy7, List.setIfInBounds_toArray, List.set_cons_zero, List.set_cons_succ])
 refine tkv 8 wyoverlappedBy8 ?_
 (try simp only [Act.put, wyoverlappedBy8, List.setIfInBounds_toArray, List.set_cons_zero, List.set_cons_succ])
 refine tkv 9 wyoverlappedBy9 ?_
 (try simp only [Act.put, wyoverlappedBy9, List.setIfInBounds_toArray, List.set_cons_zero, List.set_cons_succ])
 refine tkE 3 wyoverlappedBy3 rfl (by kernel_rfl) (fun K hK => ?_)
 go_simp
 (refine (upTo_any _ _).mono ?_; rintro e w1 ⟨rfl, kq1⟩; have kw1 : Kp W0 w1 := Kp.trans (show Kp W0 _ from (by first | with_reducible exact k00 | ((repeat (first | with_reducible refine Kp.trans ?_ (Kp.drew _) | with_reducible refine Kp.trans ?_ (Kp.alloc _ _))); with_reducible exact k00))) kq1; clear kq1)
 (try go_wp2_with fail)
 refine hK.out _ _ ?_ (fun hHeld1 => ?_)
 ·(try dsimp only); exact ⟨(KS.out _ (by first | with_reducible exact kw1 | ((repeat (first | with_reducible refine Kp.trans ?_ (Kp.drew _) | with_reducible refine Kp.trans ?_ (Kp.alloc _ _))); with_reducible exact kw1))).1, (KS.out _ (by first | with_reducible exact kw1 | ((repeat (first | with_reducible refine Kp.trans ?_ (Kp.drew _) | with_reducible refine Kp.trans ?_ (Kp.alloc _ _))); with_reducible exact kw1))).2.1⟩
 clear hK K hHeld0
 (try simp only [Act.put, wyoverlappedBy3, List.setIfInBounds_toArray, List.set_cons_zero, List.set_cons_succ])
 refine tkv 10 wyoverlappedBy10 ?_
 (try simp only [Act.put, wyoverlappedBy10, List.setIfInBounds_toArray, List.set_cons_zero, List.set_cons_succ])
 refine tkE 11 wyoverlappedBy11 rfl (by kernel_rfl) (fun K hK => ?_)
 (refine bx_store (W := w) rfl 171 (.tmp 2) (.tmp 13) rfl (w.heap.size + 1) [.int .i64 (0), .int .i64 (S - 1), .int .i64 (S), .int .i64 (T - 1)] #[.int .i64 0, .int .i64 0, .int .i64 0, .int .i64 0] (by simp [Act.eval, Act.put, wS1, wS2, wS3, wT1, wT2, wT3]) (by simp [Act.eval, Act.put, wS1, wS2, wS3, wT1, wT2, wT3]) (K0.out.trans (by first | with_reducible exact kw1 | ((repeat (first | with_reducible refine Kp.trans ?_ (Kp.drew _) | with_reducible refine Kp.trans ?_ (Kp.alloc _ _))); with_reducible exact kw1))) (by omega) (GB.out _ (by first | with_reducible exact kw1 | ((repeat (first | with_reducible refine Kp.trans ?_ (Kp.drew _) | with_reducible refine Kp.trans ?_ (Kp.alloc _ _))); with_reducible exact kw1))) (Nat.le_refl 4) (by kernel_rfl) (by kernel_rfl) (by simp [Value.oneCell']) ?_; intro F hF KF gF; have KFH := Lib.hid KF; obtain ⟨x0, x1, x2, x3⟩ := row4 gF; have qA : F.cell? ⟨w.heap.size, 0, none⟩ = some (.int .i64 S) := (by rw [hF]; have q := (KS.out _ (by first | with_reducible exact kw1 | ((repeat (first | with_reducible refine Kp.trans ?_ (Kp.drew _) | with_reducible refine Kp.trans ?_ (Kp.alloc _ _))); with_reducible exact kw1))).1; have n0 : w.heap.size ≠ w.heap.size + 1 := (by omega); simp only [World.cell?] at q ⊢; rw [bx_other n0]; exact q); have qB : F.cell? ⟨w.heap.size, 1, none⟩ = some (.int .i64 T) := (by rw [hF]; have q := (KS.out _ (by first | with_reducible exact kw1 | ((repeat (first | with_reducible refine Kp.trans ?_ (Kp.drew _) | with_reducible refine Kp.trans ?_ (Kp.alloc _ _))); with_reducible exact kw1))).2.1; have n0 : w.heap.size ≠ w.heap.size + 1 := (by omega); simp only [World.cell?] at q ⊢; rw [bx_other n0]; exact q); clear gF hF)
 (try go_wp2_with fail)
 refine hK.out _ _ ?_ (fun hHeld2 => ?_)
 ·(try dsimp only); exact ⟨qA, qB⟩
 clear hK K hHeld1
 (try simp only [Act.put, wyoverlappedBy11, List.setIfInBounds_toArray, List.set_cons_zero, List.set_cons_succ])
 refine wpAnyH_done (by kernel_rfl) ?_ _
 go_wp2
 refine bodyPost_ret (v := .agg #[.int .i64 (0), .int .i64 (S - 1), .int .i64 (S), .int .i64 (T - 1)]) (by simp [results, Tryz.results229, go_sem, x0, x1, x2, x3]) rfl ⟨rfl, KFH.out⟩
abbrev wymetBy0 : Oper := { dst := some 3, op := Go.Op.call { callee := Go.Callee.value (Go.Operand.func 276), args := #[], argTypes := #[] }, type := 53, pos := "box.go:80", after := #[], guard := none }
abbrev wymetBy1 : Oper := { dst := some 4, op := Go.Op.fieldAddr 172 (Go.Operand.tmp 1) 0, type := 0, pos := "box.go:80", after := #[], guard := none }
abbrev wymetBy2 : Oper := { dst := some 5, op := Go.Op.load 3 (Go.Operand.tmp 4), type := 3, pos := "box.go:80", after := #[{ on := 1, ground := Go.Ground.data }], guard := none }
abbrev wymetBy3 : Oper := { dst := some 6, op := Go.Op.binOp Go.BinOp.sub 3 (Go.Operand.tmp 5) (Go.Operand.const (Go.Value.int Go.IntKind.i64 1)) 3, type := 3, pos := "box.go:80", after := #[{ on := 2, ground := Go.Ground.data }], guard := none }
abbrev wymetBy4 : Oper := { dst := some 7, op := Go.Op.call { callee := Go.Callee.value (Go.Operand.func 277), args := #[Go.Operand.tmp 6], argTypes := #[3] }, type := 53, pos := "box.go:80", after := #[{ on := 3, ground := Go.Ground.data }, { on := 0, ground := Go.Ground.chain }], guard := none }
abbrev wymetBy5 : Oper := { dst := some 8, op := Go.Op.build 171 #[(0, Go.Operand.tmp 3), (1, Go.Operand.tmp 7)], type := 171, pos := "box.go:80", after := #[{ on := 0, ground := Go.Ground.data }, { on := 4, ground := Go.Ground.data }], guard := none }
abbrev wymetBy6 : Oper := { dst := none, op := Go.Op.store 171 (Go.Operand.tmp 2) (Go.Operand.tmp 8), type := 0, pos := "box.go:80", after := #[{ on := 5, ground := Go.Ground.data }, { on := 4, ground := Go.Ground.chain }, { on := 0, ground := Go.Ground.phase }, { on := 1, ground := Go.Ground.phase }, { on := 2, ground := Go.Ground.phase }, { on := 3, ground := Go.Ground.phase }, { on := 4, ground := Go.Ground.phase }, { on := 5, ground := Go.Ground.phase }], guard := none }
theorem metBy_way (S T : Int) (w : World) (h1 : 0 ≤ S) (h2 : S ≤ 4000000) (h3 : 0 ≤ T) (h4 : T ≤ 4000000) : Calls Tryz.prog 230 #[.agg #[.int .i64 S, .int .i64 T]] w fun e w' => e = .returned (.agg #[.int .i64 (0), .int .i64 (3652424), .int .i64 (S - 1), .int .i64 (S - 1)]) ∧ Kp w w' := by
 obtain ⟨W0, hW⟩ : ∃ x, x = (w.alloc (.cells #[.int .i64 S, .int .i64 T] 172)).alloc (.cells #[.int .i64 0, .int .i64 0, .int .i64 0, .int .i64 0] 171) := ⟨_, rfl⟩
 have k0 : Kp w W0 := by rw [hW]; exact (Kp.alloc _ _).trans (Kp.alloc _ _)
 have gA : W0.heap[w.heap.size]? = some (.cells #[.int .i64 S, .int .i64 T] 172 (0, 0)) := by rw [hW]; exact heap_block (Kp.alloc _ _) (heap_at _ _ _ rfl)
 have gB : W0.heap[w.heap.size + 1]? = some (.cells #[.int .i64 0, .int .i64 0, .int .i64 0, .int .i64 0] 171 (0, 0)) := by rw [hW]; exact heap_at _ _ _ (by simp)
 have hz : W0.heap.size = w.heap.size + 2 := by rw [hW]; simp
 have K0 := Lib.hid k0
 have GB := Lib.hid (fun w1 (q : Kp W0 w1) => heap_block q gB)
 have KS := Lib.hid (fun w' (kq : Kp W0 w') => show w'.cell? ⟨w.heap.size, 0, none⟩ = some (.int .i64 S) ∧ w'.cell? ⟨w.heap.size, 1, none⟩ = some (.int .i64 T) ∧ Kp W0 w' from ⟨(row2 (heap_block kq gA)).1, (row2 (heap_block kq gA)).2, kq⟩)
 have k00 : Kp W0 W0 := Kp.refl _
 have wS1 : IntKind.i64.wrap (S + 1) = S + 1 := by rw [IntKind.wrap_i64]; omega
 have wS2 : IntKind.i64.wrap (S - 1) = S - 1 := by rw [IntKind.wrap_i64]; omega
 have wS3 : IntKind.i64.wrap (S - 2) = S - 2 := by rw [IntKind.wrap_i64]; omega
 have wT1 : IntKind.i64.wrap (T + 1) = T + 1 := by rw [IntKind.wrap_i64]; omega
 have wT2 : IntKind.i64.wrap (T - 1) = T - 1 := by rw [IntKind.wrap_i64]; omega
 have wT3 : IntKind.i64.wrap (T + 2) = T + 2 := by rw [IntKind.wrap_i64]; omega
 have HW := Lib.hid hW
 clear hW gA gB k0
 go_enter Tryz.func230, Tryz.ntmps230
 go_upto_region 1 with fail
 rw [← HW.out]
 refine wp_region_held_drew (S := fun w' => w'.cell? ⟨w.heap.size, 0, none⟩ = some (.int .i64 S) ∧ w'.cell? ⟨w.heap.size, 1, none⟩ = some (.int .i64 T)) (by kernel_rfl) ?_ (fun hHeld0 => ?_)
 ·(try dsimp only); exact ⟨(KS.out _ (by first | with_reducible exact k00 | ((repeat (first | with_reducible refine Kp.trans ?_ (Kp.drew _) | with_reducible refine Kp.trans ?_ (Kp.alloc _ _))); with_reducible exact k00))).1, (KS.out _ (by first | with_reducible exact k00 | ((repeat (first | with_reducible refine Kp.trans ?_ (Kp.drew _) | with_reducible refine Kp.trans ?_ (Kp.alloc _ _))); with_reducible exact k00))).2.1⟩
 refine tkv 1 wymetBy1 ?_
 (try simp only [Act.put, wymetBy1, List.setIfInBounds_toArray, List.set_cons_zero, List.set_cons_succ])
 refine tkv 2 wymetBy2 ?_
 (try simp only [Act.put, wymetBy2, List.setIfInBounds_toArray, List.set_cons_zero, List.set_cons_succ])
 refine tkv 3 wymetBy3 ?_
 (try simp only [Act.put, wymetBy3, List.setIfInBounds_toArray, List.set_cons_zero, List.set_cons_succ])
 refine tkE 0 wymetBy0 rfl (by kernel_rfl) (fun K hK => ?_)
 go_simp
 (refine (anyDay_any _).mono ?_; rintro e w1 ⟨rfl, kq1⟩; have kw1 : Kp W0 w1 := Kp.trans (show Kp W0 _ from (by first | with_reducible exact k00 | ((repeat (first | with_reducible refine Kp.trans ?_ (Kp.drew _) | with_reducible refine Kp.trans ?_ (Kp.alloc _ _))); with_reducible exact k00))) kq1; clear kq1)
 (try go_wp2_with fail)
 refine hK.out _ _ ?_ (fun hHeld1 => ?_)
 ·(try dsimp only); exact ⟨(KS.out _ (by first | with_reducible exact kw1 | ((repeat (first | with_reducible refine Kp.trans ?_ (Kp.drew _) | with_reducible refine Kp.trans ?_ (Kp.alloc _ _))); with_reducible exact kw1))).1, (KS.out _ (by first | with_reducible exact kw1 | ((repeat (first | with_reducible refine Kp.trans ?_ (Kp.drew _) | with_reducible refine Kp.trans ?_ (Kp.alloc _ _))); with_reducible exact kw1))).2.1⟩
 clear hK K hHeld0
 (try simp only [Act.put, wymetBy0, List.setIfInBounds_toArray, List.set_cons_zero, List.set_cons_succ])
 refine tkE 4 wymetBy4 rfl (by kernel_rfl) (fun K hK => ?_)
 go_simp
 (refine (just_any _ _).mono ?_; rintro e w2 ⟨rfl, kq1⟩; have kw2 : Kp W0 w2 := Kp.trans (show Kp W0 _ from (by first | with_reducible exact kw1 | ((repeat (first | with_reducible refine Kp.trans ?_ (Kp.drew _) | with_reducible refine Kp.trans ?_ (Kp.alloc _ _))); with_reducible exact kw1))) kq1; clear kq1)
 (try go_wp2_with fail)
 refine hK.out _ _ ?_ (fun hHeld2 => ?_)
 ·(try dsimp only); exact ⟨(KS.out _ (by first | with_reducible exact kw2 | ((repeat (first | with_reducible refine Kp.trans ?_ (Kp.drew _) | with_reducible refine Kp.trans ?_ (Kp.alloc _ _))); with_reducible exact kw2))).1, (KS.out _ (by first | with_reducible exact kw2 | ((repeat (first | with_reducible refine Kp.trans ?_ (Kp.drew _) | with_reducible refine Kp.trans ?_ (Kp.alloc _ _))); with_reducible exact kw2))).2.1⟩
 clear hK K hHeld1
 (try simp only [Act.put, wymetBy4, List.setIfInBounds_toArray, List.set_cons_zero, List.set_cons_succ])
 refine tkv 5 wymetBy5 ?_
 (try simp only [Act.put, wymetBy5, List.setIfInBounds_toArray, List.set_cons_zero, List.set_cons_succ])
 refine tkE 6 wymetBy6 rfl (by kernel_rfl) (fun K hK => ?_)
 (refine bx_store (W := w) rfl 171 (.tmp 2) (.tmp 8) rfl (w.heap.size + 1) [.int .i64 (0), .int .i64 (3652424), .int .i64 (S - 1), .int .i64 (S - 1)] #[.int .i64 0, .int .i64 0, .int .i64 0, .int .i64 0] (by simp [Act.eval, Act.put, wS1, wS2, wS3, wT1, wT2, wT3]) (by simp [Act.eval, Act.put, wS1, wS2, wS3, wT1, wT2, wT3]) (K0.out.trans (by first | with_reducible exact kw2 | ((repeat (first | with_reducible refine Kp.trans ?_ (Kp.drew _) | with_reducible refine Kp.trans ?_ (Kp.alloc _ _))); with_reducible exact kw2))) (by omega) (GB.out _ (by first | with_reducible exact kw2 | ((repeat (first | with_reducible refine Kp.trans ?_ (Kp.drew _) | with_reducible refine Kp.trans ?_ (Kp.alloc _ _))); with_reducible exact kw2))) (Nat.le_refl 4) (by kernel_rfl) (by kernel_rfl) (by simp [Value.oneCell']) ?_; intro F hF KF gF; have KFH := Lib.hid KF; obtain ⟨x0, x1, x2, x3⟩ := row4 gF; have qA : F.cell? ⟨w.heap.size, 0, none⟩ = some (.int .i64 S) := (by rw [hF]; have q := (KS.out _ (by first | with_reducible exact kw2 | ((repeat (first | with_reducible refine Kp.trans ?_ (Kp.drew _) | with_reducible refine Kp.trans ?_ (Kp.alloc _ _))); with_reducible exact kw2))).1; have n0 : w.heap.size ≠ w.heap.size + 1 := (by omega); simp only [World.cell?] at q ⊢; rw [bx_other n0]; exact q); have qB : F.cell? ⟨w.heap.size, 1, none⟩ = some (.int .i64 T) := (by rw [hF]; have q := (KS.out _ (by first | with_reducible exact kw2 | ((repeat (first | with_reducible refine Kp.trans ?_ (Kp.drew _) | with_reducible refine Kp.trans ?_ (Kp.alloc _ _))); with_reducible exact kw2))).2.1; have n0 : w.heap.size ≠ w.heap.size + 1 := (by omega); simp only [World.cell?] at q ⊢; rw [bx_other n0]; exact q); clear gF hF)
 (try go_wp2_with fail)
 refine hK.out _ _ ?_ (fun hHeld3 => ?_)
 ·(try dsimp only); exact ⟨qA, qB⟩
 clear hK K hHeld2
 (try simp only [Act.put, wymetBy6, List.setIfInBounds_toArray, List.set_cons_zero, List.set_cons_succ])
 refine wpAnyH_done (by kernel_rfl) ?_ _
 go_wp2
 refine bodyPost_ret (v := .agg #[.int .i64 (0), .int .i64 (3652424), .int .i64 (S - 1), .int .i64 (S - 1)]) (by simp [results, Tryz.results230, go_sem, x0, x1, x2, x3]) rfl ⟨rfl, KFH.out⟩
abbrev wyafter0 : Oper := { dst := some 3, op := Go.Op.call { callee := Go.Callee.value (Go.Operand.func 276), args := #[], argTypes := #[] }, type := 53, pos := "box.go:84", after := #[], guard := none }
abbrev wyafter1 : Oper := { dst := some 4, op := Go.Op.fieldAddr 172 (Go.Operand.tmp 1) 0, type := 0, pos := "box.go:84", after := #[], guard := none }
abbrev wyafter2 : Oper := { dst := some 5, op := Go.Op.load 3 (Go.Operand.tmp 4), type := 3, pos := "box.go:84", after := #[{ on := 1, ground := Go.Ground.data }], guard := none }
abbrev wyafter3 : Oper := { dst := some 6, op := Go.Op.binOp Go.BinOp.sub 3 (Go.Operand.tmp 5) (Go.Operand.const (Go.Value.int Go.IntKind.i64 2)) 3, type := 3, pos := "box.go:84", after := #[{ on := 2, ground := Go.Ground.data }], guard := none }
abbrev wyafter4 : Oper := { dst := some 7, op := Go.Op.call { callee := Go.Callee.value (Go.Operand.func 278), args := #[Go.Operand.tmp 6], argTypes := #[3] }, type := 53, pos := "box.go:84", after := #[{ on := 3, ground := Go.Ground.data }, { on := 0, ground := Go.Ground.chain }], guard := none }
abbrev wyafter5 : Oper := { dst := some 8, op := Go.Op.build 171 #[(0, Go.Operand.tmp 3), (1, Go.Operand.tmp 7)], type := 171, pos := "box.go:84", after := #[{ on := 0, ground := Go.Ground.data }, { on := 4, ground := Go.Ground.data }], guard := none }
abbrev wyafter6 : Oper := { dst := none, op := Go.Op.store 171 (Go.Operand.tmp 2) (Go.Operand.tmp 8), type := 0, pos := "box.go:84", after := #[{ on := 5, ground := Go.Ground.data }, { on := 4, ground := Go.Ground.chain }, { on := 0, ground := Go.Ground.phase }, { on := 1, ground := Go.Ground.phase }, { on := 2, ground := Go.Ground.phase }, { on := 3, ground := Go.Ground.phase }, { on := 4, ground := Go.Ground.phase }, { on := 5, ground := Go.Ground.phase }], guard := none }
theorem after_way (S T : Int) (w : World) (h1 : 0 ≤ S) (h2 : S ≤ 4000000) (h3 : 0 ≤ T) (h4 : T ≤ 4000000) : Calls Tryz.prog 231 #[.agg #[.int .i64 S, .int .i64 T]] w fun e w' => e = .returned (.agg #[.int .i64 (0), .int .i64 (3652424), .int .i64 (0), .int .i64 (S - 2)]) ∧ Kp w w' := by
 obtain ⟨W0, hW⟩ : ∃ x, x = (w.alloc (.cells #[.int .i64 S, .int .i64 T] 172)).alloc (.cells #[.int .i64 0, .int .i64 0, .int .i64 0, .int .i64 0] 171) := ⟨_, rfl⟩
 have k0 : Kp w W0 := by rw [hW]; exact (Kp.alloc _ _).trans (Kp.alloc _ _)
 have gA : W0.heap[w.heap.size]? = some (.cells #[.int .i64 S, .int .i64 T] 172 (0, 0)) := by rw [hW]; exact heap_block (Kp.alloc _ _) (heap_at _ _ _ rfl)
 have gB : W0.heap[w.heap.size + 1]? = some (.cells #[.int .i64 0, .int .i64 0, .int .i64 0, .int .i64 0] 171 (0, 0)) := by rw [hW]; exact heap_at _ _ _ (by simp)
 have hz : W0.heap.size = w.heap.size + 2 := by rw [hW]; simp
 have K0 := Lib.hid k0
 have GB := Lib.hid (fun w1 (q : Kp W0 w1) => heap_block q gB)
 have KS := Lib.hid (fun w' (kq : Kp W0 w') => show w'.cell? ⟨w.heap.size, 0, none⟩ = some (.int .i64 S) ∧ w'.cell? ⟨w.heap.size, 1, none⟩ = some (.int .i64 T) ∧ Kp W0 w' from ⟨(row2 (heap_block kq gA)).1, (row2 (heap_block kq gA)).2, kq⟩)
 have k00 : Kp W0 W0 := Kp.refl _
 have wS1 : IntKind.i64.wrap (S + 1) = S + 1 := by rw [IntKind.wrap_i64]; omega
 have wS2 : IntKind.i64.wrap (S - 1) = S - 1 := by rw [IntKind.wrap_i64]; omega
 have wS3 : IntKind.i64.wrap (S - 2) = S - 2 := by rw [IntKind.wrap_i64]; omega
 have wT1 : IntKind.i64.wrap (T + 1) = T + 1 := by rw [IntKind.wrap_i64]; omega
 have wT2 : IntKind.i64.wrap (T - 1) = T - 1 := by rw [IntKind.wrap_i64]; omega
 have wT3 : IntKind.i64.wrap (T + 2) = T + 2 := by rw [IntKind.wrap_i64]; omega
 have HW := Lib.hid hW
 clear hW gA gB k0
 go_enter Tryz.func231, Tryz.ntmps231
 go_upto_region 1 with fail
 rw [← HW.out]
 refine wp_region_held_drew (S := fun w' => w'.cell? ⟨w.heap.size, 0, none⟩ = some (.int .i64 S) ∧ w'.cell? ⟨w.heap.size, 1, none⟩ = some (.int .i64 T)) (by kernel_rfl) ?_ (fun hHeld0 => ?_)
 ·(try dsimp only); exact ⟨(KS.out _ (by first | with_reducible exact k00 | ((repeat (first | with_reducible refine Kp.trans ?_ (Kp.drew _) | with_reducible refine Kp.trans ?_ (Kp.alloc _ _))); with_reducible exact k00))).1, (KS.out _ (by first | with_reducible exact k00 | ((repeat (first | with_reducible refine Kp.trans ?_ (Kp.drew _) | with_reducible refine Kp.trans ?_ (Kp.alloc _ _))); with_reducible exact k00))).2.1⟩
 refine tkv 1 wyafter1 ?_
 (try simp only [Act.put, wyafter1, List.setIfInBounds_toArray, List.set_cons_zero, List.set_cons_succ])
 refine tkv 2 wyafter2 ?_
 (try simp only [Act.put, wyafter2, List.setIfInBounds_toArray, List.set_cons_zero, List.set_cons_succ])
 refine tkv 3 wyafter3 ?_
 (try simp only [Act.put, wyafter3, List.setIfInBounds_toArray, List.set_cons_zero, List.set_cons_succ])
 refine tkE 0 wyafter0 rfl (by kernel_rfl) (fun K hK => ?_)
 go_simp
 (refine (anyDay_any _).mono ?_; rintro e w1 ⟨rfl, kq1⟩; have kw1 : Kp W0 w1 := Kp.trans (show Kp W0 _ from (by first | with_reducible exact k00 | ((repeat (first | with_reducible refine Kp.trans ?_ (Kp.drew _) | with_reducible refine Kp.trans ?_ (Kp.alloc _ _))); with_reducible exact k00))) kq1; clear kq1)
 (try go_wp2_with fail)
 refine hK.out _ _ ?_ (fun hHeld1 => ?_)
 ·(try dsimp only); exact ⟨(KS.out _ (by first | with_reducible exact kw1 | ((repeat (first | with_reducible refine Kp.trans ?_ (Kp.drew _) | with_reducible refine Kp.trans ?_ (Kp.alloc _ _))); with_reducible exact kw1))).1, (KS.out _ (by first | with_reducible exact kw1 | ((repeat (first | with_reducible refine Kp.trans ?_ (Kp.drew _) | with_reducible refine Kp.trans ?_ (Kp.alloc _ _))); with_reducible exact kw1))).2.1⟩
 clear hK K hHeld0
 (try simp only [Act.put, wyafter0, List.setIfInBounds_toArray, List.set_cons_zero, List.set_cons_succ])
 refine tkE 4 wyafter4 rfl (by kernel_rfl) (fun K hK => ?_)
 go_simp
 (refine (upTo_any _ _).mono ?_; rintro e w2 ⟨rfl, kq1⟩; have kw2 : Kp W0 w2 := Kp.trans (show Kp W0 _ from (by first | with_reducible exact kw1 | ((repeat (first | with_reducible refine Kp.trans ?_ (Kp.drew _) | with_reducible refine Kp.trans ?_ (Kp.alloc _ _))); with_reducible exact kw1))) kq1; clear kq1)
 (try go_wp2_with fail)
 refine hK.out _ _ ?_ (fun hHeld2 => ?_)
 ·(try dsimp only); exact ⟨(KS.out _ (by first | with_reducible exact kw2 | ((repeat (first | with_reducible refine Kp.trans ?_ (Kp.drew _) | with_reducible refine Kp.trans ?_ (Kp.alloc _ _))); with_reducible exact kw2))).1, (KS.out _ (by first | with_reducible exact kw2 | ((repeat (first | with_reducible refine Kp.trans ?_ (Kp.drew _) | with_reducible refine Kp.trans ?_ (Kp.alloc _ _))); with_reducible exact kw2))).2.1⟩
 clear hK K hHeld1
 (try simp only [Act.put, wyafter4, List.setIfInBounds_toArray, List.set_cons_zero, List.set_cons_succ])
 refine tkv 5 wyafter5 ?_
 (try simp only [Act.put, wyafter5, List.setIfInBounds_toArray, List.set_cons_zero, List.set_cons_succ])
 refine tkE 6 wyafter6 rfl (by kernel_rfl) (fun K hK => ?_)
 (refine bx_store (W := w) rfl 171 (.tmp 2) (.tmp 8) rfl (w.heap.size + 1) [.int .i64 (0), .int .i64 (3652424), .int .i64 (0), .int .i64 (S - 2)] #[.int .i64 0, .int .i64 0, .int .i64 0, .int .i64 0] (by simp [Act.eval, Act.put, wS1, wS2, wS3, wT1, wT2, wT3]) (by simp [Act.eval, Act.put, wS1, wS2, wS3, wT1, wT2, wT3]) (K0.out.trans (by first | with_reducible exact kw2 | ((repeat (first | with_reducible refine Kp.trans ?_ (Kp.drew _) | with_reducible refine Kp.trans ?_ (Kp.alloc _ _))); with_reducible exact kw2))) (by omega) (GB.out _ (by first | with_reducible exact kw2 | ((repeat (first | with_reducible refine Kp.trans ?_ (Kp.drew _) | with_reducible refine Kp.trans ?_ (Kp.alloc _ _))); with_reducible exact kw2))) (Nat.le_refl 4) (by kernel_rfl) (by kernel_rfl) (by simp [Value.oneCell']) ?_; intro F hF KF gF; have KFH := Lib.hid KF; obtain ⟨x0, x1, x2, x3⟩ := row4 gF; have qA : F.cell? ⟨w.heap.size, 0, none⟩ = some (.int .i64 S) := (by rw [hF]; have q := (KS.out _ (by first | with_reducible exact kw2 | ((repeat (first | with_reducible refine Kp.trans ?_ (Kp.drew _) | with_reducible refine Kp.trans ?_ (Kp.alloc _ _))); with_reducible exact kw2))).1; have n0 : w.heap.size ≠ w.heap.size + 1 := (by omega); simp only [World.cell?] at q ⊢; rw [bx_other n0]; exact q); have qB : F.cell? ⟨w.heap.size, 1, none⟩ = some (.int .i64 T) := (by rw [hF]; have q := (KS.out _ (by first | with_reducible exact kw2 | ((repeat (first | with_reducible refine Kp.trans ?_ (Kp.drew _) | with_reducible refine Kp.trans ?_ (Kp.alloc _ _))); with_reducible exact kw2))).2.1; have n0 : w.heap.size ≠ w.heap.size + 1 := (by omega); simp only [World.cell?] at q ⊢; rw [bx_other n0]; exact q); clear gF hF)
 (try go_wp2_with fail)
 refine hK.out _ _ ?_ (fun hHeld3 => ?_)
 ·(try dsimp only); exact ⟨qA, qB⟩
 clear hK K hHeld2
 (try simp only [Act.put, wyafter6, List.setIfInBounds_toArray, List.set_cons_zero, List.set_cons_succ])
 refine wpAnyH_done (by kernel_rfl) ?_ _
 go_wp2
 refine bodyPost_ret (v := .agg #[.int .i64 (0), .int .i64 (3652424), .int .i64 (0), .int .i64 (S - 2)]) (by simp [results, Tryz.results231, go_sem, x0, x1, x2, x3]) rfl ⟨rfl, KFH.out⟩
end Go.Proofs.YtjdnejglapnbbaaGreatDoor
