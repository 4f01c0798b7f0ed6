import Derived.Test.YtcooaoponkkpeaaGreatDoorJB
set_option maxHeartbeats 16000000
set_option maxRecDepth 100000
namespace Go.Proofs.YtcooaoponkkpeaaGreatDoor
open Go.RowKit
set_option linter.unusedVariables false
set_option linter.unusedSimpArgs false
theorem from_any (x : Int) (w : World) : Calls Tryz.prog 221 #[.int .i64 x] w fun e w' => e = .returned (.agg #[.int .i64 x, .int .i64 3652424]) ∧ Kp w w' := by
 go_enter Tryz.func221, Tryz.ntmps221
 go_wp2
 refine bodyPost_ret (v := .agg #[.int .i64 x, .int .i64 3652424]) (by simp [results, Tryz.results221, go_sem]) rfl ⟨rfl, Kp.alloc _ _⟩
theorem just_any (x : Int) (w : World) : Calls Tryz.prog 223 #[.int .i64 x] w fun e w' => e = .returned (.agg #[.int .i64 x, .int .i64 x]) ∧ Kp w w' := by
 go_enter Tryz.func223, Tryz.ntmps223
 go_wp2
 refine bodyPost_ret (v := .agg #[.int .i64 x, .int .i64 x]) (by simp [results, Tryz.results223, go_sem]) rfl ⟨rfl, Kp.alloc _ _⟩
theorem upTo_any (x : Int) (w : World) : Calls Tryz.prog 224 #[.int .i64 x] w fun e w' => e = .returned (.agg #[.int .i64 0, .int .i64 x]) ∧ Kp w w' := by
 go_enter Tryz.func224, Tryz.ntmps224
 go_wp2
 refine bodyPost_ret (v := .agg #[.int .i64 0, .int .i64 x]) (by simp [results, Tryz.results224, go_sem]) rfl ⟨rfl, Kp.alloc _ _⟩
theorem anyDay_any (w : World) : Calls Tryz.prog 222 #[] w fun e w' => e = .returned (.agg #[.int .i64 0, .int .i64 3652424]) ∧ Kp w w' := by
 go_enter Tryz.func222, Tryz.ntmps222
 go_wp2
 refine bodyPost_ret (v := .agg #[.int .i64 0, .int .i64 3652424]) (by simp [results, Tryz.results222, go_sem]) rfl ⟨rfl, Kp.alloc _ _⟩
theorem before_way (S T : Int) (w : World) (h1 : 0 ≤ S) (h2 : S ≤ 4000000) (h3 : 0 ≤ T) (h4 : T ≤ 4000000) : Calls Tryz.prog 168 #[.agg #[.int .i64 S, .int .i64 T]] w fun e w' => e = .returned (.agg #[.int .i64 (T + 2), .int .i64 (3652424), .int .i64 (0), .int .i64 (3652424)]) ∧ Kp w w' := by
 obtain ⟨W0, hW⟩ : ∃ x, x = (w.alloc (.cells #[.int .i64 S, .int .i64 T] 133)).alloc (.cells #[.int .i64 0, .int .i64 0, .int .i64 0, .int .i64 0] 132) := ⟨_, rfl⟩
 have k0 : Kp w W0 := by rw [hW]; exact (Kp.alloc _ _).trans (Kp.alloc _ _)
 have gA : W0.heap[w.heap.size]? = some (.cells #[.int .i64 S, .int .i64 T] 133 (0, 0)) := by rw [hW]; exact heap_block (Kp.alloc _ _) (heap_at _ _ _ rfl)
 have gB : W0.heap[w.heap.size + 1]? = some (.cells #[.int .i64 0, .int .i64 0, .int .i64 0, .int .i64 0] 132 (0, 0)) := by rw [hW]; exact heap_at _ _ _ (by simp)
 have hz : W0.heap.size = w.heap.size + 2 := by rw [hW]; simp
 have K0 := Hd k0
 have GB := Hd (fun w1 (q : Kp W0 w1) => heap_block q gB)
 have KS := Hd (fun w' (kq : Kp W0 w') => show w'.cell? ⟨w.heap.size, 0, none⟩ = some (.int .i64 S) ∧ w'.cell? ⟨w.heap.size, 1, none⟩ = some (.int .i64 T) ∧ Kp W0 w' from ⟨(row2 (heap_block kq gA)).1, (row2 (heap_block kq gA)).2, kq⟩)
 have k00 : Kp W0 W0 := Kp.refl _
 have wS1 : IntKind.i64.wrap (S + 1) = S + 1 := by rw [IntKind.wrap_i64]; omega
 have wS2 : IntKind.i64.wrap (S - 1) = S - 1 := by rw [IntKind.wrap_i64]; omega
 have wS3 : IntKind.i64.wrap (S - 2) = S - 2 := by rw [IntKind.wrap_i64]; omega
 have wT1 : IntKind.i64.wrap (T + 1) = T + 1 := by rw [IntKind.wrap_i64]; omega
 have wT2 : IntKind.i64.wrap (T - 1) = T - 1 := by rw [IntKind.wrap_i64]; omega
 have wT3 : IntKind.i64.wrap (T + 2) = T + 2 := by rw [IntKind.wrap_i64]; omega
 have HW := Hd hW
 clear hW gA gB k0
 go_enter Tryz.func168, Tryz.ntmps168
 go_upto_region 1 with fail
 rw [← HW.out]
 obtain ⟨c0, c1, -⟩ := KS.out _ k00
 go_wp2_with fail
 refine (from_any _ _).mono ?_
 rintro e w1 ⟨rfl, kq1⟩
 have kw1 : Kp W0 w1 := Kp.trans k00 kq1
 clear kq1
 clear c0 c1
 obtain ⟨c0, c1, -⟩ := KS.out _ kw1
 go_wp2_with fail
 refine (anyDay_any _).mono ?_
 rintro e w2 ⟨rfl, kq1⟩
 have kw2 : Kp W0 w2 := Kp.trans kw1 kq1
 clear kq1
 clear c0 c1
 obtain ⟨c0, c1, -⟩ := KS.out _ kw2
 have gC := GB.out _ kw2
 obtain ⟨y0, y1, y2, y3⟩ := row4 gC
 have f0 : w2.frozen? ⟨w.heap.size + 1, 0, none⟩ = false := by simp [World.frozen?, gC]
 have f1 : w2.frozen? ⟨w.heap.size + 1, 1, none⟩ = false := by simp [World.frozen?, gC]
 have f2 : w2.frozen? ⟨w.heap.size + 1, 2, none⟩ = false := by simp [World.frozen?, gC]
 have f3 : w2.frozen? ⟨w.heap.size + 1, 3, none⟩ = false := by simp [World.frozen?, gC]
 clear gC
 obtain ⟨F, hF⟩ : ∃ X, X = w2.setCells (w.heap.size + 1) 0 [.int .i64 (T + 2), .int .i64 (3652424), .int .i64 (0), .int .i64 (3652424)] := ⟨_, rfl⟩
 have gF := bx_heap [.int .i64 (T + 2), .int .i64 (3652424), .int .i64 (0), .int .i64 (3652424)] 0 (GB.out _ kw2)
 rw [← hF] at gF
 have hs4 : bxA #[.int .i64 0, .int .i64 0, .int .i64 0, .int .i64 0] 0 [.int .i64 (T + 2), .int .i64 (3652424), .int .i64 (0), .int .i64 (3652424)] = #[.int .i64 (T + 2), .int .i64 (3652424), .int .i64 (0), .int .i64 (3652424)] := by kernel_rfl
 rw [hs4] at gF
 have KF := Hd (show Kp w F by rw [hF]; exact bx_kp (by omega) _ 0 (K0.out.trans kw2))
 have TH := Hd (bx_there (GB.out _ kw2) 0 4 (by decide))
 obtain ⟨x0, x1, x2, x3⟩ := row4 gF
 have HF := Hd hF
 clear gF hs4 hF
 go_wp2
 refine (?_ : bodyPost _ _ _ _ _ (w2.setCells (w.heap.size + 1) 0 [.int .i64 (T + 2), .int .i64 (3652424), .int .i64 (0), .int .i64 (3652424)]))
 rw [← HF.out]
 refine bodyPost_ret (v := .agg #[.int .i64 (T + 2), .int .i64 (3652424), .int .i64 (0), .int .i64 (3652424)]) (by simp [results, Tryz.results168, go_sem, x0, x1, x2, x3]) rfl ⟨rfl, KF.out⟩
theorem meets_way (S T : Int) (w : World) (h1 : 0 ≤ S) (h2 : S ≤ 4000000) (h3 : 0 ≤ T) (h4 : T ≤ 4000000) : Calls Tryz.prog 169 #[.agg #[.int .i64 S, .int .i64 T]] w fun e w' => e = .returned (.agg #[.int .i64 (T + 1), .int .i64 (T + 1), .int .i64 (0), .int .i64 (3652424)]) ∧ Kp w w' := by
 obtain ⟨W0, hW⟩ : ∃ x, x = (w.alloc (.cells #[.int .i64 S, .int .i64 T] 133)).alloc (.cells #[.int .i64 0, .int .i64 0, .int .i64 0, .int .i64 0] 132) := ⟨_, rfl⟩
 have k0 : Kp w W0 := by rw [hW]; exact (Kp.alloc _ _).trans (Kp.alloc _ _)
 have gA : W0.heap[w.heap.size]? = some (.cells #[.int .i64 S, .int .i64 T] 133 (0, 0)) := by rw [hW]; exact heap_block (Kp.alloc _ _) (heap_at _ _ _ rfl)
 have gB : W0.heap[w.heap.size + 1]? = some (.cells #[.int .i64 0, .int .i64 0, .int .i64 0, .int .i64 0] 132 (0, 0)) := by rw [hW]; exact heap_at _ _ _ (by simp)
 have hz : W0.heap.size = w.heap.size + 2 := by rw [hW]; simp
 have K0 := Hd k0
 have GB := Hd (fun w1 (q : Kp W0 w1) => heap_block q gB)
 have KS := Hd (fun w' (kq : Kp W0 w') => show w'.cell? ⟨w.heap.size, 0, none⟩ = some (.int .i64 S) ∧ w'.cell? ⟨w.heap.size, 1, none⟩ = some (.int .i64 T) ∧ Kp W0 w' from ⟨(row2 (heap_block kq gA)).1, (row2 (heap_block kq gA)).2, kq⟩)
 have k00 : Kp W0 W0 := Kp.refl _
 have wS1 : IntKind.i64.wrap (S + 1) = S + 1 := by rw [IntKind.wrap_i64]; omega
 have wS2 : IntKind.i64.wrap (S - 1) = S - 1 := by rw [IntKind.wrap_i64]; omega
 have wS3 : IntKind.i64.wrap (S - 2) = S - 2 := by rw [IntKind.wrap_i64]; omega
 have wT1 : IntKind.i64.wrap (T + 1) = T + 1 := by rw [IntKind.wrap_i64]; omega
 have wT2 : IntKind.i64.wrap (T - 1) = T - 1 := by rw [IntKind.wrap_i64]; omega
 have wT3 : IntKind.i64.wrap (T + 2) = T + 2 := by rw [IntKind.wrap_i64]; omega
 have HW := Hd hW
 clear hW gA gB k0
 go_enter Tryz.func169, Tryz.ntmps169
 go_upto_region 1 with fail
 rw [← HW.out]
 obtain ⟨c0, c1, -⟩ := KS.out _ k00
 go_wp2_with fail
 refine (just_any _ _).mono ?_
 rintro e w1 ⟨rfl, kq1⟩
 have kw1 : Kp W0 w1 := Kp.trans k00 kq1
 clear kq1
 clear c0 c1
 obtain ⟨c0, c1, -⟩ := KS.out _ kw1
 go_wp2_with fail
 refine (anyDay_any _).mono ?_
 rintro e w2 ⟨rfl, kq1⟩
 have kw2 : Kp W0 w2 := Kp.trans kw1 kq1
 clear kq1
 clear c0 c1
 obtain ⟨c0, c1, -⟩ := KS.out _ kw2
 have gC := GB.out _ kw2
 obtain ⟨y0, y1, y2, y3⟩ := row4 gC
 have f0 : w2.frozen? ⟨w.heap.size + 1, 0, none⟩ = false := by simp [World.frozen?, gC]
 have f1 : w2.frozen? ⟨w.heap.size + 1, 1, none⟩ = false := by simp [World.frozen?, gC]
 have f2 : w2.frozen? ⟨w.heap.size + 1, 2, none⟩ = false := by simp [World.frozen?, gC]
 have f3 : w2.frozen? ⟨w.heap.size + 1, 3, none⟩ = false := by simp [World.frozen?, gC]
 clear gC
 obtain ⟨F, hF⟩ : ∃ X, X = w2.setCells (w.heap.size + 1) 0 [.int .i64 (T + 1), .int .i64 (T + 1), .int .i64 (0), .int .i64 (3652424)] := ⟨_, rfl⟩
 have gF := bx_heap [.int .i64 (T + 1), .int .i64 (T + 1), .int .i64 (0), .int .i64 (3652424)] 0 (GB.out _ kw2)
 rw [← hF] at gF
 have hs4 : bxA #[.int .i64 0, .int .i64 0, .int .i64 0, .int .i64 0] 0 [.int .i64 (T + 1), .int .i64 (T + 1), .int .i64 (0), .int .i64 (3652424)] = #[.int .i64 (T + 1), .int .i64 (T + 1), .int .i64 (0), .int .i64 (3652424)] := by kernel_rfl
 rw [hs4] at gF
 have KF := Hd (show Kp w F by rw [hF]; exact bx_kp (by omega) _ 0 (K0.out.trans kw2))
 have TH := Hd (bx_there (GB.out _ kw2) 0 4 (by decide))
 obtain ⟨x0, x1, x2, x3⟩ := row4 gF
 have HF := Hd hF
 clear gF hs4 hF
 go_wp2
 refine (?_ : bodyPost _ _ _ _ _ (w2.setCells (w.heap.size + 1) 0 [.int .i64 (T + 1), .int .i64 (T + 1), .int .i64 (0), .int .i64 (3652424)]))
 rw [← HF.out]
 refine bodyPost_ret (v := .agg #[.int .i64 (T + 1), .int .i64 (T + 1), .int .i64 (0), .int .i64 (3652424)]) (by simp [results, Tryz.results169, go_sem, x0, x1, x2, x3]) rfl ⟨rfl, KF.out⟩
abbrev wyoverlaps0 : Oper := ⟨some 3, .fieldAddr 133 (.tmp 1) 0, 0, "box.go:44", #[], none⟩
abbrev wyoverlaps1 : Oper := ⟨some 4, .load 3 (.tmp 3), 3, "box.go:44", #[⟨0, .data⟩], none⟩
abbrev wyoverlaps2 : Oper := ⟨some 5, .binOp .add 3 (.tmp 4) (.const (.int .i64 1)) 3, 3, "box.go:44", #[⟨1, .data⟩], none⟩
abbrev wyoverlaps3 : Oper := ⟨some 6, .fieldAddr 133 (.tmp 1) 1, 0, "box.go:44", #[], none⟩
abbrev wyoverlaps4 : Oper := ⟨some 7, .load 3 (.tmp 6), 3, "box.go:44", #[⟨3, .data⟩], none⟩
abbrev wyoverlaps5 : Oper := ⟨some 8, .build 42 #[(0, .tmp 5), (1, .tmp 7)], 42, "box.go:44", #[⟨2, .data⟩, ⟨4, .data⟩], none⟩
abbrev wyoverlaps6 : Oper := ⟨some 9, .fieldAddr 133 (.tmp 1) 1, 0, "box.go:44", #[], none⟩
abbrev wyoverlaps7 : Oper := ⟨some 10, .load 3 (.tmp 9), 3, "box.go:44", #[⟨6, .data⟩], none⟩
abbrev wyoverlaps8 : Oper := ⟨some 11, .binOp .add 3 (.tmp 10) (.const (.int .i64 1)) 3, 3, "box.go:44", #[⟨7, .data⟩], none⟩
abbrev wyoverlaps9 : Oper := ⟨some 12, .call ⟨.value (.func 221), #[.tmp 11], #[3]⟩, 42, "box.go:44", #[⟨8, .data⟩], none⟩
abbrev wyoverlaps10 : Oper := ⟨some 13, .build 132 #[(0, .tmp 8), (1, .tmp 12)], 132, "box.go:44", #[⟨5, .data⟩, ⟨9, .data⟩], none⟩
abbrev wyoverlaps11 : Oper := ⟨none, .store 132 (.tmp 2) (.tmp 13), 0, "box.go:44", #[⟨10, .data⟩, ⟨9, .chain⟩, ⟨0, .phase⟩, ⟨1, .phase⟩, ⟨2, .phase⟩, ⟨3, .phase⟩, ⟨4, .phase⟩, ⟨5, .phase⟩, ⟨6, .phase⟩, ⟨7, .phase⟩, ⟨8, .phase⟩, ⟨9, .phase⟩, ⟨10, .phase⟩], none⟩
theorem overlaps_way (S T : Int) (w : World) (h1 : 0 ≤ S) (h2 : S ≤ 4000000) (h3 : 0 ≤ T) (h4 : T ≤ 4000000) : Calls Tryz.prog 170 #[.agg #[.int .i64 S, .int .i64 T]] w fun e w' => e = .returned (.agg #[.int .i64 (S + 1), .int .i64 (T), .int .i64 (T + 1), .int .i64 (3652424)]) ∧ Kp w w' := by
 obtain ⟨W0, hW⟩ : ∃ x, x = (w.alloc (.cells #[.int .i64 S, .int .i64 T] 133)).alloc (.cells #[.int .i64 0, .int .i64 0, .int .i64 0, .int .i64 0] 132) := ⟨_, rfl⟩
 have k0 : Kp w W0 := by rw [hW]; exact (Kp.alloc _ _).trans (Kp.alloc _ _)
 have gA : W0.heap[w.heap.size]? = some (.cells #[.int .i64 S, .int .i64 T] 133 (0, 0)) := by rw [hW]; exact heap_block (Kp.alloc _ _) (heap_at _ _ _ rfl)
 have gB : W0.heap[w.heap.size + 1]? = some (.cells #[.int .i64 0, .int .i64 0, .int .i64 0, .int .i64 0] 132 (0, 0)) := by rw [hW]; exact heap_at _ _ _ (by simp)
 have hz : W0.heap.size = w.heap.size + 2 := by rw [hW]; simp
 have K0 := Hd k0
 have GB := Hd (fun w1 (q : Kp W0 w1) => heap_block q gB)
 have KS := Hd (fun w' (kq : Kp W0 w') => show w'.cell? ⟨w.heap.size, 0, none⟩ = some (.int .i64 S) ∧ w'.cell? ⟨w.heap.size, 1, none⟩ = some (.int .i64 T) ∧ Kp W0 w' from ⟨(row2 (heap_block kq gA)).1, (row2 (heap_block kq gA)).2, kq⟩)
 have k00 : Kp W0 W0 := Kp.refl _
 have wS1 : IntKind.i64.wrap (S + 1) = S + 1 := by rw [IntKind.wrap_i64]; omega
 have wS2 : IntKind.i64.wrap (S - 1) = S - 1 := by rw [IntKind.wrap_i64]; omega
 have wS3 : IntKind.i64.wrap (S - 2) = S - 2 := by rw [IntKind.wrap_i64]; omega
 have wT1 : IntKind.i64.wrap (T + 1) = T + 1 := by rw [IntKind.wrap_i64]; omega
 have wT2 : IntKind.i64.wrap (T - 1) = T - 1 := by rw [IntKind.wrap_i64]; omega
 have wT3 : IntKind.i64.wrap (T + 2) = T + 2 := by rw [IntKind.wrap_i64]; omega
 have HW := Hd hW
 clear hW gA gB k0
 go_enter Tryz.func170, Tryz.ntmps170
 go_upto_region 1 with fail
 rw [← HW.out]
 refine wp_region_held_drew (S := fun w' => w'.cell? ⟨w.heap.size, 0, none⟩ = some (.int .i64 S) ∧ w'.cell? ⟨w.heap.size, 1, none⟩ = some (.int .i64 T)) (by kernel_rfl) ?_ (fun hHeld0 => ?_)
 ·(try dsimp only); exact ⟨(KS.out _ (ky k00)).1, (KS.out _ (ky k00)).2.1⟩
 refine tkv 0 wyoverlaps0 ?_
 (try simp only [Act.put, wyoverlaps0, xA, xB, xC])
 refine tkv 1 wyoverlaps1 ?_
 (try simp only [Act.put, wyoverlaps1, xA, xB, xC])
 refine tkv 2 wyoverlaps2 ?_
 (try simp only [Act.put, wyoverlaps2, xA, xB, xC])
 refine tkv 3 wyoverlaps3 ?_
 (try simp only [Act.put, wyoverlaps3, xA, xB, xC])
 refine tkv 4 wyoverlaps4 ?_
 (try simp only [Act.put, wyoverlaps4, xA, xB, xC])
 refine tkv 5 wyoverlaps5 ?_
 (try simp only [Act.put, wyoverlaps5, xA, xB, xC])
 refine tkv 6 wyoverlaps6 ?_
 (try simp only [Act.put, wyoverlaps6, xA, xB, xC])
 refine tkv 7 wyoverlaps7 ?_
 (try simp only [Act.put, wyoverlaps7, xA, xB, xC])
 refine tkv 8 wyoverlaps8 ?_
 (try simp only [Act.put, wyoverlaps8, xA, xB, xC])
 refine tkE 9 wyoverlaps9 rfl (by kernel_rfl) (fun K hK => ?_)
 go_simp
 (refine (from_any _ _).mono ?_; rintro e w1 ⟨rfl, kq1⟩; have kw1 : Kp W0 w1 := Kp.trans (show Kp W0 _ from (ky k00)) kq1; clear kq1)
 (try go_wp2_with fail)
 refine hK.out _ _ ?_ (fun hHeld1 => ?_)
 ·(try dsimp only); exact ⟨(KS.out _ (ky kw1)).1, (KS.out _ (ky kw1)).2.1⟩
 clear hK K hHeld0
 (try simp only [Act.put, wyoverlaps9, xA, xB, xC])
 refine tkv 10 wyoverlaps10 ?_
 (try simp only [Act.put, wyoverlaps10, xA, xB, xC])
 refine tkE 11 wyoverlaps11 rfl (by kernel_rfl) (fun K hK => ?_)
 (refine bx_store (W := w) rfl 132 (.tmp 2) (.tmp 13) rfl (w.heap.size + 1) [.int .i64 (S + 1), .int .i64 (T), .int .i64 (T + 1), .int .i64 (3652424)] #[.int .i64 0, .int .i64 0, .int .i64 0, .int .i64 0] (by simp [Act.eval, Act.put, wS1, wS2, wS3, wT1, wT2, wT3]) (by simp [Act.eval, Act.put, wS1, wS2, wS3, wT1, wT2, wT3]) (K0.out.trans (ky kw1)) (by omega) (GB.out _ (ky kw1)) (Nat.le_refl 4) (by kernel_rfl) (by kernel_rfl) (by simp [Value.oneCell']) ?_; intro F hF KF gF; have KFH := Hd KF; obtain ⟨x0, x1, x2, x3⟩ := row4 gF; have qA : F.cell? ⟨w.heap.size, 0, none⟩ = some (.int .i64 S) := (by rw [hF]; have q := (KS.out _ (ky kw1)).1; have n0 : w.heap.size ≠ w.heap.size + 1 := (by omega); simp only [World.cell?] at q ⊢; rw [bx_other n0]; exact q); have qB : F.cell? ⟨w.heap.size, 1, none⟩ = some (.int .i64 T) := (by rw [hF]; have q := (KS.out _ (ky kw1)).2.1; have n0 : w.heap.size ≠ w.heap.size + 1 := (by omega); simp only [World.cell?] at q ⊢; rw [bx_other n0]; exact q); clear gF hF)
 (try go_wp2_with fail)
 refine hK.out _ _ ?_ (fun hHeld2 => ?_)
 ·(try dsimp only); exact ⟨qA, qB⟩
 clear hK K hHeld1
 (try simp only [Act.put, wyoverlaps11, xA, xB, xC])
 refine wpAnyH_done (by kernel_rfl) ?_ _
 go_wp2
 refine bodyPost_ret (v := .agg #[.int .i64 (S + 1), .int .i64 (T), .int .i64 (T + 1), .int .i64 (3652424)]) (by simp [results, Tryz.results170, go_sem, x0, x1, x2, x3]) rfl ⟨rfl, KFH.out⟩
abbrev wystarts0 : Oper := ⟨some 3, .fieldAddr 133 (.tmp 1) 0, 0, "box.go:48", #[], none⟩
abbrev wystarts1 : Oper := ⟨some 4, .load 3 (.tmp 3), 3, "box.go:48", #[⟨0, .data⟩], none⟩
abbrev wystarts2 : Oper := ⟨some 5, .call ⟨.value (.func 223), #[.tmp 4], #[3]⟩, 42, "box.go:48", #[⟨1, .data⟩], none⟩
abbrev wystarts3 : Oper := ⟨some 6, .fieldAddr 133 (.tmp 1) 1, 0, "box.go:48", #[], none⟩
abbrev wystarts4 : Oper := ⟨some 7, .load 3 (.tmp 6), 3, "box.go:48", #[⟨3, .data⟩], none⟩
abbrev wystarts5 : Oper := ⟨some 8, .binOp .add 3 (.tmp 7) (.const (.int .i64 1)) 3, 3, "box.go:48", #[⟨4, .data⟩], none⟩
abbrev wystarts6 : Oper := ⟨some 9, .call ⟨.value (.func 221), #[.tmp 8], #[3]⟩, 42, "box.go:48", #[⟨5, .data⟩, ⟨2, .chain⟩], none⟩
abbrev wystarts7 : Oper := ⟨some 10, .build 132 #[(0, .tmp 5), (1, .tmp 9)], 132, "box.go:48", #[⟨2, .data⟩, ⟨6, .data⟩], none⟩
abbrev wystarts8 : Oper := ⟨none, .store 132 (.tmp 2) (.tmp 10), 0, "box.go:48", #[⟨7, .data⟩, ⟨6, .chain⟩, ⟨0, .phase⟩, ⟨1, .phase⟩, ⟨2, .phase⟩, ⟨3, .phase⟩, ⟨4, .phase⟩, ⟨5, .phase⟩, ⟨6, .phase⟩, ⟨7, .phase⟩], none⟩
theorem starts_way (S T : Int) (w : World) (h1 : 0 ≤ S) (h2 : S ≤ 4000000) (h3 : 0 ≤ T) (h4 : T ≤ 4000000) : Calls Tryz.prog 171 #[.agg #[.int .i64 S, .int .i64 T]] w fun e w' => e = .returned (.agg #[.int .i64 (S), .int .i64 (S), .int .i64 (T + 1), .int .i64 (3652424)]) ∧ Kp w w' := by
 obtain ⟨W0, hW⟩ : ∃ x, x = (w.alloc (.cells #[.int .i64 S, .int .i64 T] 133)).alloc (.cells #[.int .i64 0, .int .i64 0, .int .i64 0, .int .i64 0] 132) := ⟨_, rfl⟩
 have k0 : Kp w W0 := by rw [hW]; exact (Kp.alloc _ _).trans (Kp.alloc _ _)
 have gA : W0.heap[w.heap.size]? = some (.cells #[.int .i64 S, .int .i64 T] 133 (0, 0)) := by rw [hW]; exact heap_block (Kp.alloc _ _) (heap_at _ _ _ rfl)
 have gB : W0.heap[w.heap.size + 1]? = some (.cells #[.int .i64 0, .int .i64 0, .int .i64 0, .int .i64 0] 132 (0, 0)) := by rw [hW]; exact heap_at _ _ _ (by simp)
 have hz : W0.heap.size = w.heap.size + 2 := by rw [hW]; simp
 have K0 := Hd k0
 have GB := Hd (fun w1 (q : Kp W0 w1) => heap_block q gB)
 have KS := Hd (fun w' (kq : Kp W0 w') => show w'.cell? ⟨w.heap.size, 0, none⟩ = some (.int .i64 S) ∧ w'.cell? ⟨w.heap.size, 1, none⟩ = some (.int .i64 T) ∧ Kp W0 w' from ⟨(row2 (heap_block kq gA)).1, (row2 (heap_block kq gA)).2, kq⟩)
 have k00 : Kp W0 W0 := Kp.refl _
 have wS1 : IntKind.i64.wrap (S + 1) = S + 1 := by rw [IntKind.wrap_i64]; omega
 have wS2 : IntKind.i64.wrap (S - 1) = S - 1 := by rw [IntKind.wrap_i64]; omega
 have wS3 : IntKind.i64.wrap (S - 2) = S - 2 := by rw [IntKind.wrap_i64]; omega
 have wT1 : IntKind.i64.wrap (T + 1) = T + 1 := by rw [IntKind.wrap_i64]; omega
 have wT2 : IntKind.i64.wrap (T - 1) = T - 1 := by rw [IntKind.wrap_i64]; omega
 have wT3 : IntKind.i64.wrap (T + 2) = T + 2 := by rw [IntKind.wrap_i64]; omega
 have HW := Hd hW
 clear hW gA gB k0
 go_enter Tryz.func171, Tryz.ntmps171
 go_upto_region 1 with fail
 rw [← HW.out]
 refine wp_region_held_drew (S := fun w' => w'.cell? ⟨w.heap.size, 0, none⟩ = some (.int .i64 S) ∧ w'.cell? ⟨w.heap.size, 1, none⟩ = some (.int .i64 T)) (by kernel_rfl) ?_ (fun hHeld0 => ?_)
 ·(try dsimp only); exact ⟨(KS.out _ (ky k00)).1, (KS.out _ (ky k00)).2.1⟩
 refine tkv 0 wystarts0 ?_
 (try simp only [Act.put, wystarts0, xA, xB, xC])
 refine tkv 1 wystarts1 ?_
 (try simp only [Act.put, wystarts1, xA, xB, xC])
 refine tkv 3 wystarts3 ?_
 (try simp only [Act.put, wystarts3, xA, xB, xC])
 refine tkv 4 wystarts4 ?_
 (try simp only [Act.put, wystarts4, xA, xB, xC])
 refine tkv 5 wystarts5 ?_
 (try simp only [Act.put, wystarts5, xA, xB, xC])
 refine tkE 2 wystarts2 rfl (by kernel_rfl) (fun K hK => ?_)
 go_simp
 (refine (just_any _ _).mono ?_; rintro e w1 ⟨rfl, kq1⟩; have kw1 : Kp W0 w1 := Kp.trans (show Kp W0 _ from (ky k00)) kq1; clear kq1)
 (try go_wp2_with fail)
 refine hK.out _ _ ?_ (fun hHeld1 => ?_)
 ·(try dsimp only); exact ⟨(KS.out _ (ky kw1)).1, (KS.out _ (ky kw1)).2.1⟩
 clear hK K hHeld0
 (try simp only [Act.put, wystarts2, xA, xB, xC])
 refine tkE 6 wystarts6 rfl (by kernel_rfl) (fun K hK => ?_)
 go_simp
 (refine (from_any _ _).mono ?_; rintro e w2 ⟨rfl, kq1⟩; have kw2 : Kp W0 w2 := Kp.trans (show Kp W0 _ from (ky kw1)) kq1; clear kq1)
 (try go_wp2_with fail)
 refine hK.out _ _ ?_ (fun hHeld2 => ?_)
 ·(try dsimp only); exact ⟨(KS.out _ (ky kw2)).1, (KS.out _ (ky kw2)).2.1⟩
 clear hK K hHeld1
 (try simp only [Act.put, wystarts6, xA, xB, xC])
 refine tkv 7 wystarts7 ?_
 (try simp only [Act.put, wystarts7, xA, xB, xC])
 refine tkE 8 wystarts8 rfl (by kernel_rfl) (fun K hK => ?_)
 (refine bx_store (W := w) rfl 132 (.tmp 2) (.tmp 10) rfl (w.heap.size + 1) [.int .i64 (S), .int .i64 (S), .int .i64 (T + 1), .int .i64 (3652424)] #[.int .i64 0, .int .i64 0, .int .i64 0, .int .i64 0] (by simp [Act.eval, Act.put, wS1, wS2, wS3, wT1, wT2, wT3]) (by simp [Act.eval, Act.put, wS1, wS2, wS3, wT1, wT2, wT3]) (K0.out.trans (ky kw2)) (by omega) (GB.out _ (ky kw2)) (Nat.le_refl 4) (by kernel_rfl) (by kernel_rfl) (by simp [Value.oneCell']) ?_; intro F hF KF gF; have KFH := Hd KF; obtain ⟨x0, x1, x2, x3⟩ := row4 gF; have qA : F.cell? ⟨w.heap.size, 0, none⟩ = some (.int .i64 S) := (by rw [hF]; have q := (KS.out _ (ky kw2)).1; have n0 : w.heap.size ≠ w.heap.size + 1 := (by omega); simp only [World.cell?] at q ⊢; rw [bx_other n0]; exact q); have qB : F.cell? ⟨w.heap.size, 1, none⟩ = some (.int .i64 T) := (by rw [hF]; have q := (KS.out _ (ky kw2)).2.1; have n0 : w.heap.size ≠ w.heap.size + 1 := (by omega); simp only [World.cell?] at q ⊢; rw [bx_other n0]; exact q); clear gF hF)
 (try go_wp2_with fail)
 refine hK.out _ _ ?_ (fun hHeld3 => ?_)
 ·(try dsimp only); exact ⟨qA, qB⟩
 clear hK K hHeld2
 (try simp only [Act.put, wystarts8, xA, xB, xC])
 refine wpAnyH_done (by kernel_rfl) ?_ _
 go_wp2
 refine bodyPost_ret (v := .agg #[.int .i64 (S), .int .i64 (S), .int .i64 (T + 1), .int .i64 (3652424)]) (by simp [results, Tryz.results171, go_sem, x0, x1, x2, x3]) rfl ⟨rfl, KFH.out⟩
abbrev wyduring0 : Oper := ⟨some 3, .fieldAddr 133 (.tmp 1) 0, 0, "box.go:52", #[], none⟩
abbrev wyduring1 : Oper := ⟨some 4, .load 3 (.tmp 3), 3, "box.go:52", #[⟨0, .data⟩], none⟩
abbrev wyduring2 : Oper := ⟨some 5, .binOp .sub 3 (.tmp 4) (.const (.int .i64 1)) 3, 3, "box.go:52", #[⟨1, .data⟩], none⟩
abbrev wyduring3 : Oper := ⟨some 6, .call ⟨.value (.func 224), #[.tmp 5], #[3]⟩, 42, "box.go:52", #[⟨2, .data⟩], none⟩
abbrev wyduring4 : Oper := ⟨some 7, .fieldAddr 133 (.tmp 1) 1, 0, "box.go:52", #[], none⟩
abbrev wyduring5 : Oper := ⟨some 8, .load 3 (.tmp 7), 3, "box.go:52", #[⟨4, .data⟩], none⟩
abbrev wyduring6 : Oper := ⟨some 9, .binOp .add 3 (.tmp 8) (.const (.int .i64 1)) 3, 3, "box.go:52", #[⟨5, .data⟩], none⟩
abbrev wyduring7 : Oper := ⟨some 10, .call ⟨.value (.func 221), #[.tmp 9], #[3]⟩, 42, "box.go:52", #[⟨6, .data⟩, ⟨3, .chain⟩], none⟩
abbrev wyduring8 : Oper := ⟨some 11, .build 132 #[(0, .tmp 6), (1, .tmp 10)], 132, "box.go:52", #[⟨3, .data⟩, ⟨7, .data⟩], none⟩
abbrev wyduring9 : Oper := ⟨none, .store 132 (.tmp 2) (.tmp 11), 0, "box.go:52", #[⟨8, .data⟩, ⟨7, .chain⟩, ⟨0, .phase⟩, ⟨1, .phase⟩, ⟨2, .phase⟩, ⟨3, .phase⟩, ⟨4, .phase⟩, ⟨5, .phase⟩, ⟨6, .phase⟩, ⟨7, .phase⟩, ⟨8, .phase⟩], none⟩
theorem during_way (S T : Int) (w : World) (h1 : 0 ≤ S) (h2 : S ≤ 4000000) (h3 : 0 ≤ T) (h4 : T ≤ 4000000) : Calls Tryz.prog 172 #[.agg #[.int .i64 S, .int .i64 T]] w fun e w' => e = .returned (.agg #[.int .i64 (0), .int .i64 (S - 1), .int .i64 (T + 1), .int .i64 (3652424)]) ∧ Kp w w' := by
 obtain ⟨W0, hW⟩ : ∃ x, x = (w.alloc (.cells #[.int .i64 S, .int .i64 T] 133)).alloc (.cells #[.int .i64 0, .int .i64 0, .int .i64 0, .int .i64 0] 132) := ⟨_, rfl⟩
 have k0 : Kp w W0 := by rw [hW]; exact (Kp.alloc _ _).trans (Kp.alloc _ _)
 have gA : W0.heap[w.heap.size]? = some (.cells #[.int .i64 S, .int .i64 T] 133 (0, 0)) := by rw [hW]; exact heap_block (Kp.alloc _ _) (heap_at _ _ _ rfl)
 have gB : W0.heap[w.heap.size + 1]? = some (.cells #[.int .i64 0, .int .i64 0, .int .i64 0, .int .i64 0] 132 (0, 0)) := by rw [hW]; exact heap_at _ _ _ (by simp)
 have hz : W0.heap.size = w.heap.size + 2 := by rw [hW]; simp
 have K0 := Hd k0
 have GB := Hd (fun w1 (q : Kp W0 w1) => heap_block q gB)
 have KS := Hd (fun w' (kq : Kp W0 w') => show w'.cell? ⟨w.heap.size, 0, none⟩ = some (.int .i64 S) ∧ w'.cell? ⟨w.heap.size, 1, none⟩ = some (.int .i64 T) ∧ Kp W0 w' from ⟨(row2 (heap_block kq gA)).1, (row2 (heap_block kq gA)).2, kq⟩)
 have k00 : Kp W0 W0 := Kp.refl _
 have wS1 : IntKind.i64.wrap (S + 1) = S + 1 := by rw [IntKind.wrap_i64]; omega
 have wS2 : IntKind.i64.wrap (S - 1) = S - 1 := by rw [IntKind.wrap_i64]; omega
 have wS3 : IntKind.i64.wrap (S - 2) = S - 2 := by rw [IntKind.wrap_i64]; omega
 have wT1 : IntKind.i64.wrap (T + 1) = T + 1 := by rw [IntKind.wrap_i64]; omega
 have wT2 : IntKind.i64.wrap (T - 1) = T - 1 := by rw [IntKind.wrap_i64]; omega
 have wT3 : IntKind.i64.wrap (T + 2) = T + 2 := by rw [IntKind.wrap_i64]; omega
 have HW := Hd hW
 clear hW gA gB k0
 go_enter Tryz.func172, Tryz.ntmps172
 go_upto_region 1 with fail
 rw [← HW.out]
 refine wp_region_held_drew (S := fun w' => w'.cell? ⟨w.heap.size, 0, none⟩ = some (.int .i64 S) ∧ w'.cell? ⟨w.heap.size, 1, none⟩ = some (.int .i64 T)) (by kernel_rfl) ?_ (fun hHeld0 => ?_)
 ·(try dsimp only); exact ⟨(KS.out _ (ky k00)).1, (KS.out _ (ky k00)).2.1⟩
 refine tkv 0 wyduring0 ?_
 (try simp only [Act.put, wyduring0, xA, xB, xC])
 refine tkv 1 wyduring1 ?_
 (try simp only [Act.put, wyduring1, xA, xB, xC])
 refine tkv 2 wyduring2 ?_
 (try simp only [Act.put, wyduring2, xA, xB, xC])
 refine tkv 4 wyduring4 ?_
 (try simp only [Act.put, wyduring4, xA, xB, xC])
 refine tkv 5 wyduring5 ?_
 (try simp only [Act.put, wyduring5, xA, xB, xC])
 refine tkv 6 wyduring6 ?_
 (try simp only [Act.put, wyduring6, xA, xB, xC])
 refine tkE 3 wyduring3 rfl (by kernel_rfl) (fun K hK => ?_)
 go_simp
 (refine (upTo_any _ _).mono ?_; rintro e w1 ⟨rfl, kq1⟩; have kw1 : Kp W0 w1 := Kp.trans (show Kp W0 _ from (ky k00)) kq1; clear kq1)
 (try go_wp2_with fail)
 refine hK.out _ _ ?_ (fun hHeld1 => ?_)
 ·(try dsimp only); exact ⟨(KS.out _ (ky kw1)).1, (KS.out _ (ky kw1)).2.1⟩
 clear hK K hHeld0
 (try simp only [Act.put, wyduring3, xA, xB, xC])
 refine tkE 7 wyduring7 rfl (by kernel_rfl) (fun K hK => ?_)
 go_simp
 (refine (from_any _ _).mono ?_; rintro e w2 ⟨rfl, kq1⟩; have kw2 : Kp W0 w2 := Kp.trans (show Kp W0 _ from (ky kw1)) kq1; clear kq1)
 (try go_wp2_with fail)
 refine hK.out _ _ ?_ (fun hHeld2 => ?_)
 ·(try dsimp only); exact ⟨(KS.out _ (ky kw2)).1, (KS.out _ (ky kw2)).2.1⟩
 clear hK K hHeld1
 (try simp only [Act.put, wyduring7, xA, xB, xC])
 refine tkv 8 wyduring8 ?_
 (try simp only [Act.put, wyduring8, xA, xB, xC])
 refine tkE 9 wyduring9 rfl (by kernel_rfl) (fun K hK => ?_)
 (refine bx_store (W := w) rfl 132 (.tmp 2) (.tmp 11) rfl (w.heap.size + 1) [.int .i64 (0), .int .i64 (S - 1), .int .i64 (T + 1), .int .i64 (3652424)] #[.int .i64 0, .int .i64 0, .int .i64 0, .int .i64 0] (by simp [Act.eval, Act.put, wS1, wS2, wS3, wT1, wT2, wT3]) (by simp [Act.eval, Act.put, wS1, wS2, wS3, wT1, wT2, wT3]) (K0.out.trans (ky kw2)) (by omega) (GB.out _ (ky kw2)) (Nat.le_refl 4) (by kernel_rfl) (by kernel_rfl) (by simp [Value.oneCell']) ?_; intro F hF KF gF; have KFH := Hd KF; obtain ⟨x0, x1, x2, x3⟩ := row4 gF; have qA : F.cell? ⟨w.heap.size, 0, none⟩ = some (.int .i64 S) := (by rw [hF]; have q := (KS.out _ (ky kw2)).1; have n0 : w.heap.size ≠ w.heap.size + 1 := (by omega); simp only [World.cell?] at q ⊢; rw [bx_other n0]; exact q); have qB : F.cell? ⟨w.heap.size, 1, none⟩ = some (.int .i64 T) := (by rw [hF]; have q := (KS.out _ (ky kw2)).2.1; have n0 : w.heap.size ≠ w.heap.size + 1 := (by omega); simp only [World.cell?] at q ⊢; rw [bx_other n0]; exact q); clear gF hF)
 (try go_wp2_with fail)
 refine hK.out _ _ ?_ (fun hHeld3 => ?_)
 ·(try dsimp only); exact ⟨qA, qB⟩
 clear hK K hHeld2
 (try simp only [Act.put, wyduring9, xA, xB, xC])
 refine wpAnyH_done (by kernel_rfl) ?_ _
 go_wp2
 refine bodyPost_ret (v := .agg #[.int .i64 (0), .int .i64 (S - 1), .int .i64 (T + 1), .int .i64 (3652424)]) (by simp [results, Tryz.results172, go_sem, x0, x1, x2, x3]) rfl ⟨rfl, KFH.out⟩
abbrev wyfinishes0 : Oper := ⟨some 3, .fieldAddr 133 (.tmp 1) 0, 0, "box.go:56", #[], none⟩
abbrev wyfinishes1 : Oper := ⟨some 4, .load 3 (.tmp 3), 3, "box.go:56", #[⟨0, .data⟩], none⟩
abbrev wyfinishes2 : Oper := ⟨some 5, .binOp .sub 3 (.tmp 4) (.const (.int .i64 1)) 3, 3, "box.go:56", #[⟨1, .data⟩], none⟩
abbrev wyfinishes3 : Oper := ⟨some 6, .call ⟨.value (.func 224), #[.tmp 5], #[3]⟩, 42, "box.go:56", #[⟨2, .data⟩], none⟩
abbrev wyfinishes4 : Oper := ⟨some 7, .fieldAddr 133 (.tmp 1) 1, 0, "box.go:56", #[], none⟩
abbrev wyfinishes5 : Oper := ⟨some 8, .load 3 (.tmp 7), 3, "box.go:56", #[⟨4, .data⟩], none⟩
abbrev wyfinishes6 : Oper := ⟨some 9, .call ⟨.value (.func 223), #[.tmp 8], #[3]⟩, 42, "box.go:56", #[⟨5, .data⟩, ⟨3, .chain⟩], none⟩
abbrev wyfinishes7 : Oper := ⟨some 10, .build 132 #[(0, .tmp 6), (1, .tmp 9)], 132, "box.go:56", #[⟨3, .data⟩, ⟨6, .data⟩], none⟩
abbrev wyfinishes8 : Oper := ⟨none, .store 132 (.tmp 2) (.tmp 10), 0, "box.go:56", #[⟨7, .data⟩, ⟨6, .chain⟩, ⟨0, .phase⟩, ⟨1, .phase⟩, ⟨2, .phase⟩, ⟨3, .phase⟩, ⟨4, .phase⟩, ⟨5, .phase⟩, ⟨6, .phase⟩, ⟨7, .phase⟩], none⟩
theorem finishes_way (S T : Int) (w : World) (h1 : 0 ≤ S) (h2 : S ≤ 4000000) (h3 : 0 ≤ T) (h4 : T ≤ 4000000) : Calls Tryz.prog 173 #[.agg #[.int .i64 S, .int .i64 T]] w fun e w' => e = .returned (.agg #[.int .i64 (0), .int .i64 (S - 1), .int .i64 (T), .int .i64 (T)]) ∧ Kp w w' := by
 obtain ⟨W0, hW⟩ : ∃ x, x = (w.alloc (.cells #[.int .i64 S, .int .i64 T] 133)).alloc (.cells #[.int .i64 0, .int .i64 0, .int .i64 0, .int .i64 0] 132) := ⟨_, rfl⟩
 have k0 : Kp w W0 := by rw [hW]; exact (Kp.alloc _ _).trans (Kp.alloc _ _)
 have gA : W0.heap[w.heap.size]? = some (.cells #[.int .i64 S, .int .i64 T] 133 (0, 0)) := by rw [hW]; exact heap_block (Kp.alloc _ _) (heap_at _ _ _ rfl)
 have gB : W0.heap[w.heap.size + 1]? = some (.cells #[.int .i64 0, .int .i64 0, .int .i64 0, .int .i64 0] 132 (0, 0)) := by rw [hW]; exact heap_at _ _ _ (by simp)
 have hz : W0.heap.size = w.heap.size + 2 := by rw [hW]; simp
 have K0 := Hd k0
 have GB := Hd (fun w1 (q : Kp W0 w1) => heap_block q gB)
 have KS := Hd (fun w' (kq : Kp W0 w') => show w'.cell? ⟨w.heap.size, 0, none⟩ = some (.int .i64 S) ∧ w'.cell? ⟨w.heap.size, 1, none⟩ = some (.int .i64 T) ∧ Kp W0 w' from ⟨(row2 (heap_block kq gA)).1, (row2 (heap_block kq gA)).2, kq⟩)
 have k00 : Kp W0 W0 := Kp.refl _
 have wS1 : IntKind.i64.wrap (S + 1) = S + 1 := by rw [IntKind.wrap_i64]; omega
 have wS2 : IntKind.i64.wrap (S - 1) = S - 1 := by rw [IntKind.wrap_i64]; omega
 have wS3 : IntKind.i64.wrap (S - 2) = S - 2 := by rw [IntKind.wrap_i64]; omega
 have wT1 : IntKind.i64.wrap (T + 1) = T + 1 := by rw [IntKind.wrap_i64]; omega
 have wT2 : IntKind.i64.wrap (T - 1) = T - 1 := by rw [IntKind.wrap_i64]; omega
 have wT3 : IntKind.i64.wrap (T + 2) = T + 2 := by rw [IntKind.wrap_i64]; omega
 have HW := Hd hW
 clear hW gA gB k0
 go_enter Tryz.func173, Tryz.ntmps173
 go_upto_region 1 with fail
 rw [← HW.out]
 refine wp_region_held_drew (S := fun w' => w'.cell? ⟨w.heap.size, 0, none⟩ = some (.int .i64 S) ∧ w'.cell? ⟨w.heap.size, 1, none⟩ = some (.int .i64 T)) (by kernel_rfl) ?_ (fun hHeld0 => ?_)
 ·(try dsimp only); exact ⟨(KS.out _ (ky k00)).1, (KS.out _ (ky k00)).2.1⟩
 refine tkv 0 wyfinishes0 ?_
 (try simp only [Act.put, wyfinishes0, xA, xB, xC])
 refine tkv 1 wyfinishes1 ?_
 (try simp only [Act.put, wyfinishes1, xA, xB, xC])
 refine tkv 2 wyfinishes2 ?_
 (try simp only [Act.put, wyfinishes2, xA, xB, xC])
 refine tkv 4 wyfinishes4 ?_
 (try simp only [Act.put, wyfinishes4, xA, xB, xC])
 refine tkv 5 wyfinishes5 ?_
 (try simp only [Act.put, wyfinishes5, xA, xB, xC])
 refine tkE 3 wyfinishes3 rfl (by kernel_rfl) (fun K hK => ?_)
 go_simp
 (refine (upTo_any _ _).mono ?_; rintro e w1 ⟨rfl, kq1⟩; have kw1 : Kp W0 w1 := Kp.trans (show Kp W0 _ from (ky k00)) kq1; clear kq1)
 (try go_wp2_with fail)
 refine hK.out _ _ ?_ (fun hHeld1 => ?_)
 ·(try dsimp only); exact ⟨(KS.out _ (ky kw1)).1, (KS.out _ (ky kw1)).2.1⟩
 clear hK K hHeld0
 (try simp only [Act.put, wyfinishes3, xA, xB, xC])
 refine tkE 6 wyfinishes6 rfl (by kernel_rfl) (fun K hK => ?_)
 go_simp
 (refine (just_any _ _).mono ?_; rintro e w2 ⟨rfl, kq1⟩; have kw2 : Kp W0 w2 := Kp.trans (show Kp W0 _ from (ky kw1)) kq1; clear kq1)
 (try go_wp2_with fail)
 refine hK.out _ _ ?_ (fun hHeld2 => ?_)
 ·(try dsimp only); exact ⟨(KS.out _ (ky kw2)).1, (KS.out _ (ky kw2)).2.1⟩
 clear hK K hHeld1
 (try simp only [Act.put, wyfinishes6, xA, xB, xC])
 refine tkv 7 wyfinishes7 ?_
 (try simp only [Act.put, wyfinishes7, xA, xB, xC])
 refine tkE 8 wyfinishes8 rfl (by kernel_rfl) (fun K hK => ?_)
 (refine bx_store (W := w) rfl 132 (.tmp 2) (.tmp 10) rfl (w.heap.size + 1) [.int .i64 (0), .int .i64 (S - 1), .int .i64 (T), .int .i64 (T)] #[.int .i64 0, .int .i64 0, .int .i64 0, .int .i64 0] (by simp [Act.eval, Act.put, wS1, wS2, wS3, wT1, wT2, wT3]) (by simp [Act.eval, Act.put, wS1, wS2, wS3, wT1, wT2, wT3]) (K0.out.trans (ky kw2)) (by omega) (GB.out _ (ky kw2)) (Nat.le_refl 4) (by kernel_rfl) (by kernel_rfl) (by simp [Value.oneCell']) ?_; intro F hF KF gF; have KFH := Hd KF; obtain ⟨x0, x1, x2, x3⟩ := row4 gF; have qA : F.cell? ⟨w.heap.size, 0, none⟩ = some (.int .i64 S) := (by rw [hF]; have q := (KS.out _ (ky kw2)).1; have n0 : w.heap.size ≠ w.heap.size + 1 := (by omega); simp only [World.cell?] at q ⊢; rw [bx_other n0]; exact q); have qB : F.cell? ⟨w.heap.size, 1, none⟩ = some (.int .i64 T) := (by rw [hF]; have q := (KS.out _ (ky kw2)).2.1; have n0 : w.heap.size ≠ w.heap.size + 1 := (by omega); simp only [World.cell?] at q ⊢; rw [bx_other n0]; exact q); clear gF hF)
 (try go_wp2_with fail)
 refine hK.out _ _ ?_ (fun hHeld3 => ?_)
 ·(try dsimp only); exact ⟨qA, qB⟩
 clear hK K hHeld2
 (try simp only [Act.put, wyfinishes8, xA, xB, xC])
 refine wpAnyH_done (by kernel_rfl) ?_ _
 go_wp2
 refine bodyPost_ret (v := .agg #[.int .i64 (0), .int .i64 (S - 1), .int .i64 (T), .int .i64 (T)]) (by simp [results, Tryz.results173, go_sem, x0, x1, x2, x3]) rfl ⟨rfl, KFH.out⟩
abbrev wyequals0 : Oper := ⟨some 3, .fieldAddr 133 (.tmp 1) 0, 0, "box.go:60", #[], none⟩
abbrev wyequals1 : Oper := ⟨some 4, .load 3 (.tmp 3), 3, "box.go:60", #[⟨0, .data⟩], none⟩
abbrev wyequals2 : Oper := ⟨some 5, .call ⟨.value (.func 223), #[.tmp 4], #[3]⟩, 42, "box.go:60", #[⟨1, .data⟩], none⟩
abbrev wyequals3 : Oper := ⟨some 6, .fieldAddr 133 (.tmp 1) 1, 0, "box.go:60", #[], none⟩
abbrev wyequals4 : Oper := ⟨some 7, .load 3 (.tmp 6), 3, "box.go:60", #[⟨3, .data⟩], none⟩
abbrev wyequals5 : Oper := ⟨some 8, .call ⟨.value (.func 223), #[.tmp 7], #[3]⟩, 42, "box.go:60", #[⟨4, .data⟩, ⟨2, .chain⟩], none⟩
abbrev wyequals6 : Oper := ⟨some 9, .build 132 #[(0, .tmp 5), (1, .tmp 8)], 132, "box.go:60", #[⟨2, .data⟩, ⟨5, .data⟩], none⟩
abbrev wyequals7 : Oper := ⟨none, .store 132 (.tmp 2) (.tmp 9), 0, "box.go:60", #[⟨6, .data⟩, ⟨5, .chain⟩, ⟨0, .phase⟩, ⟨1, .phase⟩, ⟨2, .phase⟩, ⟨3, .phase⟩, ⟨4, .phase⟩, ⟨5, .phase⟩, ⟨6, .phase⟩], none⟩
theorem equals_way (S T : Int) (w : World) (h1 : 0 ≤ S) (h2 : S ≤ 4000000) (h3 : 0 ≤ T) (h4 : T ≤ 4000000) : Calls Tryz.prog 174 #[.agg #[.int .i64 S, .int .i64 T]] w fun e w' => e = .returned (.agg #[.int .i64 (S), .int .i64 (S), .int .i64 (T), .int .i64 (T)]) ∧ Kp w w' := by
 obtain ⟨W0, hW⟩ : ∃ x, x = (w.alloc (.cells #[.int .i64 S, .int .i64 T] 133)).alloc (.cells #[.int .i64 0, .int .i64 0, .int .i64 0, .int .i64 0] 132) := ⟨_, rfl⟩
 have k0 : Kp w W0 := by rw [hW]; exact (Kp.alloc _ _).trans (Kp.alloc _ _)
 have gA : W0.heap[w.heap.size]? = some (.cells #[.int .i64 S, .int .i64 T] 133 (0, 0)) := by rw [hW]; exact heap_block (Kp.alloc _ _) (heap_at _ _ _ rfl)
 have gB : W0.heap[w.heap.size + 1]? = some (.cells #[.int .i64 0, .int .i64 0, .int .i64 0, .int .i64 0] 132 (0, 0)) := by rw [hW]; exact heap_at _ _ _ (by simp)
 have hz : W0.heap.size = w.heap.size + 2 := by rw [hW]; simp
 have K0 := Hd k0
 have GB := Hd (fun w1 (q : Kp W0 w1) => heap_block q gB)
 have KS := Hd (fun w' (kq : Kp W0 w') => show w'.cell? ⟨w.heap.size, 0, none⟩ = some (.int .i64 S) ∧ w'.cell? ⟨w.heap.size, 1, none⟩ = some (.int .i64 T) ∧ Kp W0 w' from ⟨(row2 (heap_block kq gA)).1, (row2 (heap_block kq gA)).2, kq⟩)
 have k00 : Kp W0 W0 := Kp.refl _
 have wS1 : IntKind.i64.wrap (S + 1) = S + 1 := by rw [IntKind.wrap_i64]; omega
 have wS2 : IntKind.i64.wrap (S - 1) = S - 1 := by rw [IntKind.wrap_i64]; omega
 have wS3 : IntKind.i64.wrap (S - 2) = S - 2 := by rw [IntKind.wrap_i64]; omega
 have wT1 : IntKind.i64.wrap (T + 1) = T + 1 := by rw [IntKind.wrap_i64]; omega
 have wT2 : IntKind.i64.wrap (T - 1) = T - 1 := by rw [IntKind.wrap_i64]; omega
 have wT3 : IntKind.i64.wrap (T + 2) = T + 2 := by rw [IntKind.wrap_i64]; omega
 have HW := Hd hW
 clear hW gA gB k0
 go_enter Tryz.func174, Tryz.ntmps174
 go_upto_region 1 with fail
 rw [← HW.out]
 refine wp_region_held_drew (S := fun w' => w'.cell? ⟨w.heap.size, 0, none⟩ = some (.int .i64 S) ∧ w'.cell? ⟨w.heap.size, 1, none⟩ = some (.int .i64 T)) (by kernel_rfl) ?_ (fun hHeld0 => ?_)
 ·(try dsimp only); exact ⟨(KS.out _ (ky k00)).1, (KS.out _ (ky k00)).2.1⟩
 refine tkv 0 wyequals0 ?_
 (try simp only [Act.put, wyequals0, xA, xB, xC])
 refine tkv 1 wyequals1 ?_
 (try simp only [Act.put, wyequals1, xA, xB, xC])
 refine tkv 3 wyequals3 ?_
 (try simp only [Act.put, wyequals3, xA, xB, xC])
 refine tkv 4 wyequals4 ?_
 (try simp only [Act.put, wyequals4, xA, xB, xC])
 refine tkE 2 wyequals2 rfl (by kernel_rfl) (fun K hK => ?_)
 go_simp
 (refine (just_any _ _).mono ?_; rintro e w1 ⟨rfl, kq1⟩; have kw1 : Kp W0 w1 := Kp.trans (show Kp W0 _ from (ky k00)) kq1; clear kq1)
 (try go_wp2_with fail)
 refine hK.out _ _ ?_ (fun hHeld1 => ?_)
 ·(try dsimp only); exact ⟨(KS.out _ (ky kw1)).1, (KS.out _ (ky kw1)).2.1⟩
 clear hK K hHeld0
 (try simp only [Act.put, wyequals2, xA, xB, xC])
 refine tkE 5 wyequals5 rfl (by kernel_rfl) (fun K hK => ?_)
 go_simp
 (refine (just_any _ _).mono ?_; rintro e w2 ⟨rfl, kq1⟩; have kw2 : Kp W0 w2 := Kp.trans (show Kp W0 _ from (ky kw1)) kq1; clear kq1)
 (try go_wp2_with fail)
 refine hK.out _ _ ?_ (fun hHeld2 => ?_)
 ·(try dsimp only); exact ⟨(KS.out _ (ky kw2)).1, (KS.out _ (ky kw2)).2.1⟩
 clear hK K hHeld1
 (try simp only [Act.put, wyequals5, xA, xB, xC])
 refine tkv 6 wyequals6 ?_
 (try simp only [Act.put, wyequals6, xA, xB, xC])
 refine tkE 7 wyequals7 rfl (by kernel_rfl) (fun K hK => ?_)
 (refine bx_store (W := w) rfl 132 (.tmp 2) (.tmp 9) rfl (w.heap.size + 1) [.int .i64 (S), .int .i64 (S), .int .i64 (T), .int .i64 (T)] #[.int .i64 0, .int .i64 0, .int .i64 0, .int .i64 0] (by simp [Act.eval, Act.put, wS1, wS2, wS3, wT1, wT2, wT3]) (by simp [Act.eval, Act.put, wS1, wS2, wS3, wT1, wT2, wT3]) (K0.out.trans (ky kw2)) (by omega) (GB.out _ (ky kw2)) (Nat.le_refl 4) (by kernel_rfl) (by kernel_rfl) (by simp [Value.oneCell']) ?_; intro F hF KF gF; have KFH := Hd KF; obtain ⟨x0, x1, x2, x3⟩ := row4 gF; have qA : F.cell? ⟨w.heap.size, 0, none⟩ = some (.int .i64 S) := (by rw [hF]; have q := (KS.out _ (ky kw2)).1; have n0 : w.heap.size ≠ w.heap.size + 1 := (by omega); simp only [World.cell?] at q ⊢; rw [bx_other n0]; exact q); have qB : F.cell? ⟨w.heap.size, 1, none⟩ = some (.int .i64 T) := (by rw [hF]; have q := (KS.out _ (ky kw2)).2.1; have n0 : w.heap.size ≠ w.heap.size + 1 := (by omega); simp only [World.cell?] at q ⊢; rw [bx_other n0]; exact q); clear gF hF)
 (try go_wp2_with fail)
 refine hK.out _ _ ?_ (fun hHeld3 => ?_)
 ·(try dsimp only); exact ⟨qA, qB⟩
 clear hK K hHeld2
 (try simp only [Act.put, wyequals7, xA, xB, xC])
 refine wpAnyH_done (by kernel_rfl) ?_ _
 go_wp2
 refine bodyPost_ret (v := .agg #[.int .i64 (S), .int .i64 (S), .int .i64 (T), .int .i64 (T)]) (by simp [results, Tryz.results174, go_sem, x0, x1, x2, x3]) rfl ⟨rfl, KFH.out⟩
abbrev wyfinishedBy0 : Oper := ⟨some 3, .fieldAddr 133 (.tmp 1) 0, 0, "box.go:64", #[], none⟩
abbrev wyfinishedBy1 : Oper := ⟨some 4, .load 3 (.tmp 3), 3, "box.go:64", #[⟨0, .data⟩], none⟩
abbrev wyfinishedBy2 : Oper := ⟨some 5, .binOp .add 3 (.tmp 4) (.const (.int .i64 1)) 3, 3, "box.go:64", #[⟨1, .data⟩], none⟩
abbrev wyfinishedBy3 : Oper := ⟨some 6, .call ⟨.value (.func 221), #[.tmp 5], #[3]⟩, 42, "box.go:64", #[⟨2, .data⟩], none⟩
abbrev wyfinishedBy4 : Oper := ⟨some 7, .fieldAddr 133 (.tmp 1) 1, 0, "box.go:64", #[], none⟩
abbrev wyfinishedBy5 : Oper := ⟨some 8, .load 3 (.tmp 7), 3, "box.go:64", #[⟨4, .data⟩], none⟩
abbrev wyfinishedBy6 : Oper := ⟨some 9, .call ⟨.value (.func 223), #[.tmp 8], #[3]⟩, 42, "box.go:64", #[⟨5, .data⟩, ⟨3, .chain⟩], none⟩
abbrev wyfinishedBy7 : Oper := ⟨some 10, .build 132 #[(0, .tmp 6), (1, .tmp 9)], 132, "box.go:64", #[⟨3, .data⟩, ⟨6, .data⟩], none⟩
abbrev wyfinishedBy8 : Oper := ⟨none, .store 132 (.tmp 2) (.tmp 10), 0, "box.go:64", #[⟨7, .data⟩, ⟨6, .chain⟩, ⟨0, .phase⟩, ⟨1, .phase⟩, ⟨2, .phase⟩, ⟨3, .phase⟩, ⟨4, .phase⟩, ⟨5, .phase⟩, ⟨6, .phase⟩, ⟨7, .phase⟩], none⟩
theorem finishedBy_way (S T : Int) (w : World) (h1 : 0 ≤ S) (h2 : S ≤ 4000000) (h3 : 0 ≤ T) (h4 : T ≤ 4000000) : Calls Tryz.prog 175 #[.agg #[.int .i64 S, .int .i64 T]] w fun e w' => e = .returned (.agg #[.int .i64 (S + 1), .int .i64 (3652424), .int .i64 (T), .int .i64 (T)]) ∧ Kp w w' := by
 obtain ⟨W0, hW⟩ : ∃ x, x = (w.alloc (.cells #[.int .i64 S, .int .i64 T] 133)).alloc (.cells #[.int .i64 0, .int .i64 0, .int .i64 0, .int .i64 0] 132) := ⟨_, rfl⟩
 have k0 : Kp w W0 := by rw [hW]; exact (Kp.alloc _ _).trans (Kp.alloc _ _)
 have gA : W0.heap[w.heap.size]? = some (.cells #[.int .i64 S, .int .i64 T] 133 (0, 0)) := by rw [hW]; exact heap_block (Kp.alloc _ _) (heap_at _ _ _ rfl)
 have gB : W0.heap[w.heap.size + 1]? = some (.cells #[.int .i64 0, .int .i64 0, .int .i64 0, .int .i64 0] 132 (0, 0)) := by rw [hW]; exact heap_at _ _ _ (by simp)
 have hz : W0.heap.size = w.heap.size + 2 := by rw [hW]; simp
 have K0 := Hd k0
 have GB := Hd (fun w1 (q : Kp W0 w1) => heap_block q gB)
 have KS := Hd (fun w' (kq : Kp W0 w') => show w'.cell? ⟨w.heap.size, 0, none⟩ = some (.int .i64 S) ∧ w'.cell? ⟨w.heap.size, 1, none⟩ = some (.int .i64 T) ∧ Kp W0 w' from ⟨(row2 (heap_block kq gA)).1, (row2 (heap_block kq gA)).2, kq⟩)
 have k00 : Kp W0 W0 := Kp.refl _
 have wS1 : IntKind.i64.wrap (S + 1) = S + 1 := by rw [IntKind.wrap_i64]; omega
 have wS2 : IntKind.i64.wrap (S - 1) = S - 1 := by rw [IntKind.wrap_i64]; omega
 have wS3 : IntKind.i64.wrap (S - 2) = S - 2 := by rw [IntKind.wrap_i64]; omega
 have wT1 : IntKind.i64.wrap (T + 1) = T + 1 := by rw [IntKind.wrap_i64]; omega
 have wT2 : IntKind.i64.wrap (T - 1) = T - 1 := by rw [IntKind.wrap_i64]; omega
 have wT3 : IntKind.i64.wrap (T + 2) = T + 2 := by rw [IntKind.wrap_i64]; omega
 have HW := Hd hW
 clear hW gA gB k0
 go_enter Tryz.func175, Tryz.ntmps175
 go_upto_region 1 with fail
 rw [← HW.out]
 refine wp_region_held_drew (S := fun w' => w'.cell? ⟨w.heap.size, 0, none⟩ = some (.int .i64 S) ∧ w'.cell? ⟨w.heap.size, 1, none⟩ = some (.int .i64 T)) (by kernel_rfl) ?_ (fun hHeld0 => ?_)
 ·(try dsimp only); exact ⟨(KS.out _ (ky k00)).1, (KS.out _ (ky k00)).2.1⟩
 refine tkv 0 wyfinishedBy0 ?_
 (try simp only [Act.put, wyfinishedBy0, xA, xB, xC])
 refine tkv 1 wyfinishedBy1 ?_
 (try simp only [Act.put, wyfinishedBy1, xA, xB, xC])
 refine tkv 2 wyfinishedBy2 ?_
 (try simp only [Act.put, wyfinishedBy2, xA, xB, xC])
 refine tkv 4 wyfinishedBy4 ?_
 (try simp only [Act.put, wyfinishedBy4, xA, xB, xC])
 refine tkv 5 wyfinishedBy5 ?_
 (try simp only [Act.put, wyfinishedBy5, xA, xB, xC])
 refine tkE 3 wyfinishedBy3 rfl (by kernel_rfl) (fun K hK => ?_)
 go_simp
 (refine (from_any _ _).mono ?_; rintro e w1 ⟨rfl, kq1⟩; have kw1 : Kp W0 w1 := Kp.trans (show Kp W0 _ from (ky k00)) kq1; clear kq1)
 (try go_wp2_with fail)
 refine hK.out _ _ ?_ (fun hHeld1 => ?_)
 ·(try dsimp only); exact ⟨(KS.out _ (ky kw1)).1, (KS.out _ (ky kw1)).2.1⟩
 clear hK K hHeld0
 (try simp only [Act.put, wyfinishedBy3, xA, xB, xC])
 refine tkE 6 wyfinishedBy6 rfl (by kernel_rfl) (fun K hK => ?_)
 go_simp
 (refine (just_any _ _).mono ?_; rintro e w2 ⟨rfl, kq1⟩; have kw2 : Kp W0 w2 := Kp.trans (show Kp W0 _ from (ky kw1)) kq1; clear kq1)
 (try go_wp2_with fail)
 refine hK.out _ _ ?_ (fun hHeld2 => ?_)
 ·(try dsimp only); exact ⟨(KS.out _ (ky kw2)).1, (KS.out _ (ky kw2)).2.1⟩
 clear hK K hHeld1
 (try simp only [Act.put, wyfinishedBy6, xA, xB, xC])
 refine tkv 7 wyfinishedBy7 ?_
 (try simp only [Act.put, wyfinishedBy7, xA, xB, xC])
 refine tkE 8 wyfinishedBy8 rfl (by kernel_rfl) (fun K hK => ?_)
 (refine bx_store (W := w) rfl 132 (.tmp 2) (.tmp 10) rfl (w.heap.size + 1) [.int .i64 (S + 1), .int .i64 (3652424), .int .i64 (T), .int .i64 (T)] #[.int .i64 0, .int .i64 0, .int .i64 0, .int .i64 0] (by simp [Act.eval, Act.put, wS1, wS2, wS3, wT1, wT2, wT3]) (by simp [Act.eval, Act.put, wS1, wS2, wS3, wT1, wT2, wT3]) (K0.out.trans (ky kw2)) (by omega) (GB.out _ (ky kw2)) (Nat.le_refl 4) (by kernel_rfl) (by kernel_rfl) (by simp [Value.oneCell']) ?_; intro F hF KF gF; have KFH := Hd KF; obtain ⟨x0, x1, x2, x3⟩ := row4 gF; have qA : F.cell? ⟨w.heap.size, 0, none⟩ = some (.int .i64 S) := (by rw [hF]; have q := (KS.out _ (ky kw2)).1; have n0 : w.heap.size ≠ w.heap.size + 1 := (by omega); simp only [World.cell?] at q ⊢; rw [bx_other n0]; exact q); have qB : F.cell? ⟨w.heap.size, 1, none⟩ = some (.int .i64 T) := (by rw [hF]; have q := (KS.out _ (ky kw2)).2.1; have n0 : w.heap.size ≠ w.heap.size + 1 := (by omega); simp only [World.cell?] at q ⊢; rw [bx_other n0]; exact q); clear gF hF)
 (try go_wp2_with fail)
 refine hK.out _ _ ?_ (fun hHeld3 => ?_)
 ·(try dsimp only); exact ⟨qA, qB⟩
 clear hK K hHeld2
 (try simp only [Act.put, wyfinishedBy8, xA, xB, xC])
 refine wpAnyH_done (by kernel_rfl) ?_ _
 go_wp2
 refine bodyPost_ret (v := .agg #[.int .i64 (S + 1), .int .i64 (3652424), .int .i64 (T), .int .i64 (T)]) (by simp [results, Tryz.results175, go_sem, x0, x1, x2, x3]) rfl ⟨rfl, KFH.out⟩
abbrev wycontains0 : Oper := ⟨some 3, .fieldAddr 133 (.tmp 1) 0, 0, "box.go:68", #[], none⟩
abbrev wycontains1 : Oper := ⟨some 4, .load 3 (.tmp 3), 3, "box.go:68", #[⟨0, .data⟩], none⟩
abbrev wycontains2 : Oper := ⟨some 5, .binOp .add 3 (.tmp 4) (.const (.int .i64 1)) 3, 3, "box.go:68", #[⟨1, .data⟩], none⟩
abbrev wycontains3 : Oper := ⟨some 6, .call ⟨.value (.func 221), #[.tmp 5], #[3]⟩, 42, "box.go:68", #[⟨2, .data⟩], none⟩
abbrev wycontains4 : Oper := ⟨some 7, .fieldAddr 133 (.tmp 1) 1, 0, "box.go:68", #[], none⟩
abbrev wycontains5 : Oper := ⟨some 8, .load 3 (.tmp 7), 3, "box.go:68", #[⟨4, .data⟩], none⟩
abbrev wycontains6 : Oper := ⟨some 9, .binOp .sub 3 (.tmp 8) (.const (.int .i64 1)) 3, 3, "box.go:68", #[⟨5, .data⟩], none⟩
abbrev wycontains7 : Oper := ⟨some 10, .call ⟨.value (.func 224), #[.tmp 9], #[3]⟩, 42, "box.go:68", #[⟨6, .data⟩, ⟨3, .chain⟩], none⟩
abbrev wycontains8 : Oper := ⟨some 11, .build 132 #[(0, .tmp 6), (1, .tmp 10)], 132, "box.go:68", #[⟨3, .data⟩, ⟨7, .data⟩], none⟩
abbrev wycontains9 : Oper := ⟨none, .store 132 (.tmp 2) (.tmp 11), 0, "box.go:68", #[⟨8, .data⟩, ⟨7, .chain⟩, ⟨0, .phase⟩, ⟨1, .phase⟩, ⟨2, .phase⟩, ⟨3, .phase⟩, ⟨4, .phase⟩, ⟨5, .phase⟩, ⟨6, .phase⟩, ⟨7, .phase⟩, ⟨8, .phase⟩], none⟩
theorem contains_way (S T : Int) (w : World) (h1 : 0 ≤ S) (h2 : S ≤ 4000000) (h3 : 0 ≤ T) (h4 : T ≤ 4000000) : Calls Tryz.prog 176 #[.agg #[.int .i64 S, .int .i64 T]] w fun e w' => e = .returned (.agg #[.int .i64 (S + 1), .int .i64 (3652424), .int .i64 (0), .int .i64 (T - 1)]) ∧ Kp w w' := by
 obtain ⟨W0, hW⟩ : ∃ x, x = (w.alloc (.cells #[.int .i64 S, .int .i64 T] 133)).alloc (.cells #[.int .i64 0, .int .i64 0, .int .i64 0, .int .i64 0] 132) := ⟨_, rfl⟩
 have k0 : Kp w W0 := by rw [hW]; exact (Kp.alloc _ _).trans (Kp.alloc _ _)
 have gA : W0.heap[w.heap.size]? = some (.cells #[.int .i64 S, .int .i64 T] 133 (0, 0)) := by rw [hW]; exact heap_block (Kp.alloc _ _) (heap_at _ _ _ rfl)
 have gB : W0.heap[w.heap.size + 1]? = some (.cells #[.int .i64 0, .int .i64 0, .int .i64 0, .int .i64 0] 132 (0, 0)) := by rw [hW]; exact heap_at _ _ _ (by simp)
 have hz : W0.heap.size = w.heap.size + 2 := by rw [hW]; simp
 have K0 := Hd k0
 have GB := Hd (fun w1 (q : Kp W0 w1) => heap_block q gB)
 have KS := Hd (fun w' (kq : Kp W0 w') => show w'.cell? ⟨w.heap.size, 0, none⟩ = some (.int .i64 S) ∧ w'.cell? ⟨w.heap.size, 1, none⟩ = some (.int .i64 T) ∧ Kp W0 w' from ⟨(row2 (heap_block kq gA)).1, (row2 (heap_block kq gA)).2, kq⟩)
 have k00 : Kp W0 W0 := Kp.refl _
 have wS1 : IntKind.i64.wrap (S + 1) = S + 1 := by rw [IntKind.wrap_i64]; omega
 have wS2 : IntKind.i64.wrap (S - 1) = S - 1 := by rw [IntKind.wrap_i64]; omega
 have wS3 : IntKind.i64.wrap (S - 2) = S - 2 := by rw [IntKind.wrap_i64]; omega
 have wT1 : IntKind.i64.wrap (T + 1) = T + 1 := by rw [IntKind.wrap_i64]; omega
 have wT2 : IntKind.i64.wrap (T - 1) = T - 1 := by rw [IntKind.wrap_i64]; omega
 have wT3 : IntKind.i64.wrap (T + 2) = T + 2 := by rw [IntKind.wrap_i64]; omega
 have HW := Hd hW
 clear hW gA gB k0
 go_enter Tryz.func176, Tryz.ntmps176
 go_upto_region 1 with fail
 rw [← HW.out]
 refine wp_region_held_drew (S := fun w' => w'.cell? ⟨w.heap.size, 0, none⟩ = some (.int .i64 S) ∧ w'.cell? ⟨w.heap.size, 1, none⟩ = some (.int .i64 T)) (by kernel_rfl) ?_ (fun hHeld0 => ?_)
 ·(try dsimp only); exact ⟨(KS.out _ (ky k00)).1, (KS.out _ (ky k00)).2.1⟩
 refine tkv 0 wycontains0 ?_
 (try simp only [Act.put, wycontains0, xA, xB, xC])
 refine tkv 1 wycontains1 ?_
 (try simp only [Act.put, wycontains1, xA, xB, xC])
 refine tkv 2 wycontains2 ?_
 (try simp only [Act.put, wycontains2, xA, xB, xC])
 refine tkv 4 wycontains4 ?_
 (try simp only [Act.put, wycontains4, xA, xB, xC])
 refine tkv 5 wycontains5 ?_
 (try simp only [Act.put, wycontains5, xA, xB, xC])
 refine tkv 6 wycontains6 ?_
 (try simp only [Act.put, wycontains6, xA, xB, xC])
 refine tkE 3 wycontains3 rfl (by kernel_rfl) (fun K hK => ?_)
 go_simp
 (refine (from_any _ _).mono ?_; rintro e w1 ⟨rfl, kq1⟩; have kw1 : Kp W0 w1 := Kp.trans (show Kp W0 _ from (ky k00)) kq1; clear kq1)
 (try go_wp2_with fail)
 refine hK.out _ _ ?_ (fun hHeld1 => ?_)
 ·(try dsimp only); exact ⟨(KS.out _ (ky kw1)).1, (KS.out _ (ky kw1)).2.1⟩
 clear hK K hHeld0
 (try simp only [Act.put, wycontains3, xA, xB, xC])
 refine tkE 7 wycontains7 rfl (by kernel_rfl) (fun K hK => ?_)
 go_simp
 (refine (upTo_any _ _).mono ?_; rintro e w2 ⟨rfl, kq1⟩; have kw2 : Kp W0 w2 := Kp.trans (show Kp W0 _ from (ky kw1)) kq1; clear kq1)
 (try go_wp2_with fail)
 refine hK.out _ _ ?_ (fun hHeld2 => ?_)
 ·(try dsimp only); exact ⟨(KS.out _ (ky kw2)).1, (KS.out _ (ky kw2)).2.1⟩
 clear hK K hHeld1
 (try simp only [Act.put, wycontains7, xA, xB, xC])
 refine tkv 8 wycontains8 ?_
 (try simp only [Act.put, wycontains8, xA, xB, xC])
 refine tkE 9 wycontains9 rfl (by kernel_rfl) (fun K hK => ?_)
 (refine bx_store (W := w) rfl 132 (.tmp 2) (.tmp 11) rfl (w.heap.size + 1) [.int .i64 (S + 1), .int .i64 (3652424), .int .i64 (0), .int .i64 (T - 1)] #[.int .i64 0, .int .i64 0, .int .i64 0, .int .i64 0] (by simp [Act.eval, Act.put, wS1, wS2, wS3, wT1, wT2, wT3]) (by simp [Act.eval, Act.put, wS1, wS2, wS3, wT1, wT2, wT3]) (K0.out.trans (ky kw2)) (by omega) (GB.out _ (ky kw2)) (Nat.le_refl 4) (by kernel_rfl) (by kernel_rfl) (by simp [Value.oneCell']) ?_; intro F hF KF gF; have KFH := Hd KF; obtain ⟨x0, x1, x2, x3⟩ := row4 gF; have qA : F.cell? ⟨w.heap.size, 0, none⟩ = some (.int .i64 S) := (by rw [hF]; have q := (KS.out _ (ky kw2)).1; have n0 : w.heap.size ≠ w.heap.size + 1 := (by omega); simp only [World.cell?] at q ⊢; rw [bx_other n0]; exact q); have qB : F.cell? ⟨w.heap.size, 1, none⟩ = some (.int .i64 T) := (by rw [hF]; have q := (KS.out _ (ky kw2)).2.1; have n0 : w.heap.size ≠ w.heap.size + 1 := (by omega); simp only [World.cell?] at q ⊢; rw [bx_other n0]; exact q); clear gF hF)
 (try go_wp2_with fail)
 refine hK.out _ _ ?_ (fun hHeld3 => ?_)
 ·(try dsimp only); exact ⟨qA, qB⟩
 clear hK K hHeld2
 (try simp only [Act.put, wycontains9, xA, xB, xC])
 refine wpAnyH_done (by kernel_rfl) ?_ _
 go_wp2
 refine bodyPost_ret (v := .agg #[.int .i64 (S + 1), .int .i64 (3652424), .int .i64 (0), .int .i64 (T - 1)]) (by simp [results, Tryz.results176, go_sem, x0, x1, x2, x3]) rfl ⟨rfl, KFH.out⟩
abbrev wystartedBy0 : Oper := ⟨some 3, .fieldAddr 133 (.tmp 1) 0, 0, "box.go:72", #[], none⟩
abbrev wystartedBy1 : Oper := ⟨some 4, .load 3 (.tmp 3), 3, "box.go:72", #[⟨0, .data⟩], none⟩
abbrev wystartedBy2 : Oper := ⟨some 5, .call ⟨.value (.func 223), #[.tmp 4], #[3]⟩, 42, "box.go:72", #[⟨1, .data⟩], none⟩
abbrev wystartedBy3 : Oper := ⟨some 6, .fieldAddr 133 (.tmp 1) 1, 0, "box.go:72", #[], none⟩
abbrev wystartedBy4 : Oper := ⟨some 7, .load 3 (.tmp 6), 3, "box.go:72", #[⟨3, .data⟩], none⟩
abbrev wystartedBy5 : Oper := ⟨some 8, .binOp .sub 3 (.tmp 7) (.const (.int .i64 1)) 3, 3, "box.go:72", #[⟨4, .data⟩], none⟩
abbrev wystartedBy6 : Oper := ⟨some 9, .call ⟨.value (.func 224), #[.tmp 8], #[3]⟩, 42, "box.go:72", #[⟨5, .data⟩, ⟨2, .chain⟩], none⟩
abbrev wystartedBy7 : Oper := ⟨some 10, .build 132 #[(0, .tmp 5), (1, .tmp 9)], 132, "box.go:72", #[⟨2, .data⟩, ⟨6, .data⟩], none⟩
abbrev wystartedBy8 : Oper := ⟨none, .store 132 (.tmp 2) (.tmp 10), 0, "box.go:72", #[⟨7, .data⟩, ⟨6, .chain⟩, ⟨0, .phase⟩, ⟨1, .phase⟩, ⟨2, .phase⟩, ⟨3, .phase⟩, ⟨4, .phase⟩, ⟨5, .phase⟩, ⟨6, .phase⟩, ⟨7, .phase⟩], none⟩
theorem startedBy_way (S T : Int) (w : World) (h1 : 0 ≤ S) (h2 : S ≤ 4000000) (h3 : 0 ≤ T) (h4 : T ≤ 4000000) : Calls Tryz.prog 177 #[.agg #[.int .i64 S, .int .i64 T]] w fun e w' => e = .returned (.agg #[.int .i64 (S), .int .i64 (S), .int .i64 (0), .int .i64 (T - 1)]) ∧ Kp w w' := by
 obtain ⟨W0, hW⟩ : ∃ x, x = (w.alloc (.cells #[.int .i64 S, .int .i64 T] 133)).alloc (.cells #[.int .i64 0, .int .i64 0, .int .i64 0, .int .i64 0] 132) := ⟨_, rfl⟩
 have k0 : Kp w W0 := by rw [hW]; exact (Kp.alloc _ _).trans (Kp.alloc _ _)
 have gA : W0.heap[w.heap.size]? = some (.cells #[.int .i64 S, .int .i64 T] 133 (0, 0)) := by rw [hW]; exact heap_block (Kp.alloc _ _) (heap_at _ _ _ rfl)
 have gB : W0.heap[w.heap.size + 1]? = some (.cells #[.int .i64 0, .int .i64 0, .int .i64 0, .int .i64 0] 132 (0, 0)) := by rw [hW]; exact heap_at _ _ _ (by simp)
 have hz : W0.heap.size = w.heap.size + 2 := by rw [hW]; simp
 have K0 := Hd k0
 have GB := Hd (fun w1 (q : Kp W0 w1) => heap_block q gB)
 have KS := Hd (fun w' (kq : Kp W0 w') => show w'.cell? ⟨w.heap.size, 0, none⟩ = some (.int .i64 S) ∧ w'.cell? ⟨w.heap.size, 1, none⟩ = some (.int .i64 T) ∧ Kp W0 w' from ⟨(row2 (heap_block kq gA)).1, (row2 (heap_block kq gA)).2, kq⟩)
 have k00 : Kp W0 W0 := Kp.refl _
 have wS1 : IntKind.i64.wrap (S + 1) = S + 1 := by rw [IntKind.wrap_i64]; omega
 have wS2 : IntKind.i64.wrap (S - 1) = S - 1 := by rw [IntKind.wrap_i64]; omega
 have wS3 : IntKind.i64.wrap (S - 2) = S - 2 := by rw [IntKind.wrap_i64]; omega
 have wT1 : IntKind.i64.wrap (T + 1) = T + 1 := by rw [IntKind.wrap_i64]; omega
 have wT2 : IntKind.i64.wrap (T - 1) = T - 1 := by rw [IntKind.wrap_i64]; omega
 have wT3 : IntKind.i64.wrap (T + 2) = T + 2 := by rw [IntKind.wrap_i64]; omega
 have HW := Hd hW
 clear hW gA gB k0
 go_enter Tryz.func177, Tryz.ntmps177
 go_upto_region 1 with fail
 rw [← HW.out]
 refine wp_region_held_drew (S := fun w' => w'.cell? ⟨w.heap.size, 0, none⟩ = some (.int .i64 S) ∧ w'.cell? ⟨w.heap.size, 1, none⟩ = some (.int .i64 T)) (by kernel_rfl) ?_ (fun hHeld0 => ?_)
 ·(try dsimp only); exact ⟨(KS.out _ (ky k00)).1, (KS.out _ (ky k00)).2.1⟩
 refine tkv 0 wystartedBy0 ?_
 (try simp only [Act.put, wystartedBy0, xA, xB, xC])
 refine tkv 1 wystartedBy1 ?_
 (try simp only [Act.put, wystartedBy1, xA, xB, xC])
 refine tkv 3 wystartedBy3 ?_
 (try simp only [Act.put, wystartedBy3, xA, xB, xC])
 refine tkv 4 wystartedBy4 ?_
 (try simp only [Act.put, wystartedBy4, xA, xB, xC])
 refine tkv 5 wystartedBy5 ?_
 (try simp only [Act.put, wystartedBy5, xA, xB, xC])
 refine tkE 2 wystartedBy2 rfl (by kernel_rfl) (fun K hK => ?_)
 go_simp
 (refine (just_any _ _).mono ?_; rintro e w1 ⟨rfl, kq1⟩; have kw1 : Kp W0 w1 := Kp.trans (show Kp W0 _ from (ky k00)) kq1; clear kq1)
 (try go_wp2_with fail)
 refine hK.out _ _ ?_ (fun hHeld1 => ?_)
 ·(try dsimp only); exact ⟨(KS.out _ (ky kw1)).1, (KS.out _ (ky kw1)).2.1⟩
 clear hK K hHeld0
 (try simp only [Act.put, wystartedBy2, xA, xB, xC])
 refine tkE 6 wystartedBy6 rfl (by kernel_rfl) (fun K hK => ?_)
 go_simp
 (refine (upTo_any _ _).mono ?_; rintro e w2 ⟨rfl, kq1⟩; have kw2 : Kp W0 w2 := Kp.trans (show Kp W0 _ from (ky kw1)) kq1; clear kq1)
 (try go_wp2_with fail)
 refine hK.out _ _ ?_ (fun hHeld2 => ?_)
 ·(try dsimp only); exact ⟨(KS.out _ (ky kw2)).1, (KS.out _ (ky kw2)).2.1⟩
 clear hK K hHeld1
 (try simp only [Act.put, wystartedBy6, xA, xB, xC])
 refine tkv 7 wystartedBy7 ?_
 (try simp only [Act.put, wystartedBy7, xA, xB, xC])
 refine tkE 8 wystartedBy8 rfl (by kernel_rfl) (fun K hK => ?_)
 (refine bx_store (W := w) rfl 132 (.tmp 2) (.tmp 10) rfl (w.heap.size + 1) [.int .i64 (S), .int .i64 (S), .int .i64 (0), .int .i64 (T - 1)] #[.int .i64 0, .int .i64 0, .int .i64 0, .int .i64 0] (by simp [Act.eval, Act.put, wS1, wS2, wS3, wT1, wT2, wT3]) (by simp [Act.eval, Act.put, wS1, wS2, wS3, wT1, wT2, wT3]) (K0.out.trans (ky kw2)) (by omega) (GB.out _ (ky kw2)) (Nat.le_refl 4) (by kernel_rfl) (by kernel_rfl) (by simp [Value.oneCell']) ?_; intro F hF KF gF; have KFH := Hd KF; obtain ⟨x0, x1, x2, x3⟩ := row4 gF; have qA : F.cell? ⟨w.heap.size, 0, none⟩ = some (.int .i64 S) := (by rw [hF]; have q := (KS.out _ (ky kw2)).1; have n0 : w.heap.size ≠ w.heap.size + 1 := (by omega); simp only [World.cell?] at q ⊢; rw [bx_other n0]; exact q); have qB : F.cell? ⟨w.heap.size, 1, none⟩ = some (.int .i64 T) := (by rw [hF]; have q := (KS.out _ (ky kw2)).2.1; have n0 : w.heap.size ≠ w.heap.size + 1 := (by omega); simp only [World.cell?] at q ⊢; rw [bx_other n0]; exact q); clear gF hF)
 (try go_wp2_with fail)
 refine hK.out _ _ ?_ (fun hHeld3 => ?_)
 ·(try dsimp only); exact ⟨qA, qB⟩
 clear hK K hHeld2
 (try simp only [Act.put, wystartedBy8, xA, xB, xC])
 refine wpAnyH_done (by kernel_rfl) ?_ _
 go_wp2
 refine bodyPost_ret (v := .agg #[.int .i64 (S), .int .i64 (S), .int .i64 (0), .int .i64 (T - 1)]) (by simp [results, Tryz.results177, go_sem, x0, x1, x2, x3]) rfl ⟨rfl, KFH.out⟩
abbrev wyoverlappedBy0 : Oper := ⟨some 3, .fieldAddr 133 (.tmp 1) 0, 0, "box.go:76", #[], none⟩
abbrev wyoverlappedBy1 : Oper := ⟨some 4, .load 3 (.tmp 3), 3, "box.go:76", #[⟨0, .data⟩], none⟩
abbrev wyoverlappedBy2 : Oper := ⟨some 5, .binOp .sub 3 (.tmp 4) (.const (.int .i64 1)) 3, 3, "box.go:76", #[⟨1, .data⟩], none⟩
abbrev wyoverlappedBy3 : Oper := ⟨some 6, .call ⟨.value (.func 224), #[.tmp 5], #[3]⟩, 42, "box.go:76", #[⟨2, .data⟩], none⟩
abbrev wyoverlappedBy4 : Oper := ⟨some 7, .fieldAddr 133 (.tmp 1) 0, 0, "box.go:76", #[], none⟩
abbrev wyoverlappedBy5 : Oper := ⟨some 8, .load 3 (.tmp 7), 3, "box.go:76", #[⟨4, .data⟩], none⟩
abbrev wyoverlappedBy6 : Oper := ⟨some 9, .fieldAddr 133 (.tmp 1) 1, 0, "box.go:76", #[], none⟩
abbrev wyoverlappedBy7 : Oper := ⟨some 10, .load 3 (.tmp 9), 3, "box.go:76", #[⟨6, .data⟩], none⟩
abbrev wyoverlappedBy8 : Oper := ⟨some 11, .binOp .sub 3 (.tmp 10) (.const (.int .i64 1)) 3, 3, "box.go:76", #[⟨7, .data⟩], none⟩
abbrev wyoverlappedBy9 : Oper := ⟨some 12, .build 42 #[(0, .tmp 8), (1, .tmp 11)], 42, "box.go:76", #[⟨5, .data⟩, ⟨8, .data⟩], none⟩
abbrev wyoverlappedBy10 : Oper := ⟨some 13, .build 132 #[(0, .tmp 6), (1, .tmp 12)], 132, "box.go:76", #[⟨3, .data⟩, ⟨9, .data⟩], none⟩
abbrev wyoverlappedBy11 : Oper := ⟨none, .store 132 (.tmp 2) (.tmp 13), 0, "box.go:76", #[⟨10, .data⟩, ⟨3, .chain⟩, ⟨0, .phase⟩, ⟨1, .phase⟩, ⟨2, .phase⟩, ⟨3, .phase⟩, ⟨4, .phase⟩, ⟨5, .phase⟩, ⟨6, .phase⟩, ⟨7, .phase⟩, ⟨8, .phase⟩, ⟨9, .phase⟩, ⟨10, .phase⟩], none⟩
theorem overlappedBy_way (S T : Int) (w : World) (h1 : 0 ≤ S) (h2 : S ≤ 4000000) (h3 : 0 ≤ T) (h4 : T ≤ 4000000) : Calls Tryz.prog 178 #[.agg #[.int .i64 S, .int .i64 T]] w fun e w' => e = .returned (.agg #[.int .i64 (0), .int .i64 (S - 1), .int .i64 (S), .int .i64 (T - 1)]) ∧ Kp w w' := by
 obtain ⟨W0, hW⟩ : ∃ x, x = (w.alloc (.cells #[.int .i64 S, .int .i64 T] 133)).alloc (.cells #[.int .i64 0, .int .i64 0, .int .i64 0, .int .i64 0] 132) := ⟨_, rfl⟩
 have k0 : Kp w W0 := by rw [hW]; exact (Kp.alloc _ _).trans (Kp.alloc _ _)
 have gA : W0.heap[w.heap.size]? = some (.cells #[.int .i64 S, .int .i64 T] 133 (0, 0)) := by rw [hW]; exact heap_block (Kp.alloc _ _) (heap_at _ _ _ rfl)
 have gB : W0.heap[w.heap.size + 1]? = some (.cells #[.int .i64 0, .int .i64 0, .int .i64 0, .int .i64 0] 132 (0, 0)) := by rw [hW]; exact heap_at _ _ _ (by simp)
 have hz : W0.heap.size = w.heap.size + 2 := by rw [hW]; simp
 have K0 := Hd k0
 have GB := Hd (fun w1 (q : Kp W0 w1) => heap_block q gB)
 have KS := Hd (fun w' (kq : Kp W0 w') => show w'.cell? ⟨w.heap.size, 0, none⟩ = some (.int .i64 S) ∧ w'.cell? ⟨w.heap.size, 1, none⟩ = some (.int .i64 T) ∧ Kp W0 w' from ⟨(row2 (heap_block kq gA)).1, (row2 (heap_block kq gA)).2, kq⟩)
 have k00 : Kp W0 W0 := Kp.refl _
 have wS1 : IntKind.i64.wrap (S + 1) = S + 1 := by rw [IntKind.wrap_i64]; omega
 have wS2 : IntKind.i64.wrap (S - 1) = S - 1 := by rw [IntKind.wrap_i64]; omega
 have wS3 : IntKind.i64.wrap (S - 2) = S - 2 := by rw [IntKind.wrap_i64]; omega
 have wT1 : IntKind.i64.wrap (T + 1) = T + 1 := by rw [IntKind.wrap_i64]; omega
 have wT2 : IntKind.i64.wrap (T - 1) = T - 1 := by rw [IntKind.wrap_i64]; omega
 have wT3 : IntKind.i64.wrap (T + 2) = T + 2 := by rw [IntKind.wrap_i64]; omega
 have HW := Hd hW
 clear hW gA gB k0
 go_enter Tryz.func178, Tryz.ntmps178
 go_upto_region 1 with fail
 rw [← HW.out]
 refine wp_region_held_drew (S := fun w' => w'.cell? ⟨w.heap.size, 0, none⟩ = some (.int .i64 S) ∧ w'.cell? ⟨w.heap.size, 1, none⟩ = some (.int .i64 T)) (by kernel_rfl) ?_ (fun hHeld0 => ?_)
 ·(try dsimp only); exact ⟨(KS.out _ (ky k00)).1, (KS.out _ (ky k00)).2.1⟩
 refine tkv 0 wyoverlappedBy0 ?_
 (try simp only [Act.put, wyoverlappedBy0, xA, xB, xC])
 refine tkv 1 wyoverlappedBy1 ?_
 (try simp only [Act.put, wyoverlappedBy1, xA, xB, xC])
 refine tkv 2 wyoverlappedBy2 ?_
 (try simp only [Act.put, wyoverlappedBy2, xA, xB, xC])
 refine tkv 4 wyoverlappedBy4 ?_
 (try simp only [Act.put, wyoverlappedBy4, xA, xB, xC])
 refine tkv 5 wyoverlappedBy5 ?_
 (try simp only [Act.put, wyoverlappedBy5, xA, xB, xC])
 refine tkv 6 wyoverlappedBy6 ?_
 (try simp only [Act.put, wyoverlappedBy6, xA, xB, xC])
 refine tkv 7 wyoverlappedBy7 ?_
 (try simp only [Act.put, wyoverlappedBy7, xA, xB, xC])
 refine tkv 8 wyoverlappedBy8 ?_
 (try simp only [Act.put, wyoverlappedBy8, xA, xB, xC])
 refine tkv 9 wyoverlappedBy9 ?_
 (try simp only [Act.put, wyoverlappedBy9, xA, xB, xC])
 refine tkE 3 wyoverlappedBy3 rfl (by kernel_rfl) (fun K hK => ?_)
 go_simp
 (refine (upTo_any _ _).mono ?_; rintro e w1 ⟨rfl, kq1⟩; have kw1 : Kp W0 w1 := Kp.trans (show Kp W0 _ from (ky k00)) kq1; clear kq1)
 (try go_wp2_with fail)
 refine hK.out _ _ ?_ (fun hHeld1 => ?_)
 ·(try dsimp only); exact ⟨(KS.out _ (ky kw1)).1, (KS.out _ (ky kw1)).2.1⟩
 clear hK K hHeld0
 (try simp only [Act.put, wyoverlappedBy3, xA, xB, xC])
 refine tkv 10 wyoverlappedBy10 ?_
 (try simp only [Act.put, wyoverlappedBy10, xA, xB, xC])
 refine tkE 11 wyoverlappedBy11 rfl (by kernel_rfl) (fun K hK => ?_)
 (refine bx_store (W := w) rfl 132 (.tmp 2) (.tmp 13) rfl (w.heap.size + 1) [.int .i64 (0), .int .i64 (S - 1), .int .i64 (S), .int .i64 (T - 1)] #[.int .i64 0, .int .i64 0, .int .i64 0, .int .i64 0] (by simp [Act.eval, Act.put, wS1, wS2, wS3, wT1, wT2, wT3]) (by simp [Act.eval, Act.put, wS1, wS2, wS3, wT1, wT2, wT3]) (K0.out.trans (ky kw1)) (by omega) (GB.out _ (ky kw1)) (Nat.le_refl 4) (by kernel_rfl) (by kernel_rfl) (by simp [Value.oneCell']) ?_; intro F hF KF gF; have KFH := Hd KF; obtain ⟨x0, x1, x2, x3⟩ := row4 gF; have qA : F.cell? ⟨w.heap.size, 0, none⟩ = some (.int .i64 S) := (by rw [hF]; have q := (KS.out _ (ky kw1)).1; have n0 : w.heap.size ≠ w.heap.size + 1 := (by omega); simp only [World.cell?] at q ⊢; rw [bx_other n0]; exact q); have qB : F.cell? ⟨w.heap.size, 1, none⟩ = some (.int .i64 T) := (by rw [hF]; have q := (KS.out _ (ky kw1)).2.1; have n0 : w.heap.size ≠ w.heap.size + 1 := (by omega); simp only [World.cell?] at q ⊢; rw [bx_other n0]; exact q); clear gF hF)
 (try go_wp2_with fail)
 refine hK.out _ _ ?_ (fun hHeld2 => ?_)
 ·(try dsimp only); exact ⟨qA, qB⟩
 clear hK K hHeld1
 (try simp only [Act.put, wyoverlappedBy11, xA, xB, xC])
 refine wpAnyH_done (by kernel_rfl) ?_ _
 go_wp2
 refine bodyPost_ret (v := .agg #[.int .i64 (0), .int .i64 (S - 1), .int .i64 (S), .int .i64 (T - 1)]) (by simp [results, Tryz.results178, go_sem, x0, x1, x2, x3]) rfl ⟨rfl, KFH.out⟩
abbrev wymetBy0 : Oper := ⟨some 3, .call ⟨.value (.func 222), #[], #[]⟩, 42, "box.go:80", #[], none⟩
abbrev wymetBy1 : Oper := ⟨some 4, .fieldAddr 133 (.tmp 1) 0, 0, "box.go:80", #[], none⟩
abbrev wymetBy2 : Oper := ⟨some 5, .load 3 (.tmp 4), 3, "box.go:80", #[⟨1, .data⟩], none⟩
abbrev wymetBy3 : Oper := ⟨some 6, .binOp .sub 3 (.tmp 5) (.const (.int .i64 1)) 3, 3, "box.go:80", #[⟨2, .data⟩], none⟩
abbrev wymetBy4 : Oper := ⟨some 7, .call ⟨.value (.func 223), #[.tmp 6], #[3]⟩, 42, "box.go:80", #[⟨3, .data⟩, ⟨0, .chain⟩], none⟩
abbrev wymetBy5 : Oper := ⟨some 8, .build 132 #[(0, .tmp 3), (1, .tmp 7)], 132, "box.go:80", #[⟨0, .data⟩, ⟨4, .data⟩], none⟩
abbrev wymetBy6 : Oper := ⟨none, .store 132 (.tmp 2) (.tmp 8), 0, "box.go:80", #[⟨5, .data⟩, ⟨4, .chain⟩, ⟨0, .phase⟩, ⟨1, .phase⟩, ⟨2, .phase⟩, ⟨3, .phase⟩, ⟨4, .phase⟩, ⟨5, .phase⟩], none⟩
theorem metBy_way (S T : Int) (w : World) (h1 : 0 ≤ S) (h2 : S ≤ 4000000) (h3 : 0 ≤ T) (h4 : T ≤ 4000000) : Calls Tryz.prog 179 #[.agg #[.int .i64 S, .int .i64 T]] w fun e w' => e = .returned (.agg #[.int .i64 (0), .int .i64 (3652424), .int .i64 (S - 1), .int .i64 (S - 1)]) ∧ Kp w w' := by
 obtain ⟨W0, hW⟩ : ∃ x, x = (w.alloc (.cells #[.int .i64 S, .int .i64 T] 133)).alloc (.cells #[.int .i64 0, .int .i64 0, .int .i64 0, .int .i64 0] 132) := ⟨_, rfl⟩
 have k0 : Kp w W0 := by rw [hW]; exact (Kp.alloc _ _).trans (Kp.alloc _ _)
 have gA : W0.heap[w.heap.size]? = some (.cells #[.int .i64 S, .int .i64 T] 133 (0, 0)) := by rw [hW]; exact heap_block (Kp.alloc _ _) (heap_at _ _ _ rfl)
 have gB : W0.heap[w.heap.size + 1]? = some (.cells #[.int .i64 0, .int .i64 0, .int .i64 0, .int .i64 0] 132 (0, 0)) := by rw [hW]; exact heap_at _ _ _ (by simp)
 have hz : W0.heap.size = w.heap.size + 2 := by rw [hW]; simp
 have K0 := Hd k0
 have GB := Hd (fun w1 (q : Kp W0 w1) => heap_block q gB)
 have KS := Hd (fun w' (kq : Kp W0 w') => show w'.cell? ⟨w.heap.size, 0, none⟩ = some (.int .i64 S) ∧ w'.cell? ⟨w.heap.size, 1, none⟩ = some (.int .i64 T) ∧ Kp W0 w' from ⟨(row2 (heap_block kq gA)).1, (row2 (heap_block kq gA)).2, kq⟩)
 have k00 : Kp W0 W0 := Kp.refl _
 have wS1 : IntKind.i64.wrap (S + 1) = S + 1 := by rw [IntKind.wrap_i64]; omega
 have wS2 : IntKind.i64.wrap (S - 1) = S - 1 := by rw [IntKind.wrap_i64]; omega
 have wS3 : IntKind.i64.wrap (S - 2) = S - 2 := by rw [IntKind.wrap_i64]; omega
 have wT1 : IntKind.i64.wrap (T + 1) = T + 1 := by rw [IntKind.wrap_i64]; omega
 have wT2 : IntKind.i64.wrap (T - 1) = T - 1 := by rw [IntKind.wrap_i64]; omega
 have wT3 : IntKind.i64.wrap (T + 2) = T + 2 := by rw [IntKind.wrap_i64]; omega
 have HW := Hd hW
 clear hW gA gB k0
 go_enter Tryz.func179, Tryz.ntmps179
 go_upto_region 1 with fail
 rw [← HW.out]
 refine wp_region_held_drew (S := fun w' => w'.cell? ⟨w.heap.size, 0, none⟩ = some (.int .i64 S) ∧ w'.cell? ⟨w.heap.size, 1, none⟩ = some (.int .i64 T)) (by kernel_rfl) ?_ (fun hHeld0 => ?_)
 ·(try dsimp only); exact ⟨(KS.out _ (ky k00)).1, (KS.out _ (ky k00)).2.1⟩
 refine tkv 1 wymetBy1 ?_
 (try simp only [Act.put, wymetBy1, xA, xB, xC])
 refine tkv 2 wymetBy2 ?_
 (try simp only [Act.put, wymetBy2, xA, xB, xC])
 refine tkv 3 wymetBy3 ?_
 (try simp only [Act.put, wymetBy3, xA, xB, xC])
 refine tkE 0 wymetBy0 rfl (by kernel_rfl) (fun K hK => ?_)
 go_simp
 (refine (anyDay_any _).mono ?_; rintro e w1 ⟨rfl, kq1⟩; have kw1 : Kp W0 w1 := Kp.trans (show Kp W0 _ from (ky k00)) kq1; clear kq1)
 (try go_wp2_with fail)
 refine hK.out _ _ ?_ (fun hHeld1 => ?_)
 ·(try dsimp only); exact ⟨(KS.out _ (ky kw1)).1, (KS.out _ (ky kw1)).2.1⟩
 clear hK K hHeld0
 (try simp only [Act.put, wymetBy0, xA, xB, xC])
 refine tkE 4 wymetBy4 rfl (by kernel_rfl) (fun K hK => ?_)
 go_simp
 (refine (just_any _ _).mono ?_; rintro e w2 ⟨rfl, kq1⟩; have kw2 : Kp W0 w2 := Kp.trans (show Kp W0 _ from (ky kw1)) kq1; clear kq1)
 (try go_wp2_with fail)
 refine hK.out _ _ ?_ (fun hHeld2 => ?_)
 ·(try dsimp only); exact ⟨(KS.out _ (ky kw2)).1, (KS.out _ (ky kw2)).2.1⟩
 clear hK K hHeld1
 (try simp only [Act.put, wymetBy4, xA, xB, xC])
 refine tkv 5 wymetBy5 ?_
 (try simp only [Act.put, wymetBy5, xA, xB, xC])
 refine tkE 6 wymetBy6 rfl (by kernel_rfl) (fun K hK => ?_)
 (refine bx_store (W := w) rfl 132 (.tmp 2) (.tmp 8) rfl (w.heap.size + 1) [.int .i64 (0), .int .i64 (3652424), .int .i64 (S - 1), .int .i64 (S - 1)] #[.int .i64 0, .int .i64 0, .int .i64 0, .int .i64 0] (by simp [Act.eval, Act.put, wS1, wS2, wS3, wT1, wT2, wT3]) (by simp [Act.eval, Act.put, wS1, wS2, wS3, wT1, wT2, wT3]) (K0.out.trans (ky kw2)) (by omega) (GB.out _ (ky kw2)) (Nat.le_refl 4) (by kernel_rfl) (by kernel_rfl) (by simp [Value.oneCell']) ?_; intro F hF KF gF; have KFH := Hd KF; obtain ⟨x0, x1, x2, x3⟩ := row4 gF; have qA : F.cell? ⟨w.heap.size, 0, none⟩ = some (.int .i64 S) := (by rw [hF]; have q := (KS.out _ (ky kw2)).1; have n0 : w.heap.size ≠ w.heap.size + 1 := (by omega); simp only [World.cell?] at q ⊢; rw [bx_other n0]; exact q); have qB : F.cell? ⟨w.heap.size, 1, none⟩ = some (.int .i64 T) := (by rw [hF]; have q := (KS.out _ (ky kw2)).2.1; have n0 : w.heap.size ≠ w.heap.size + 1 := (by omega); simp only [World.cell?] at q ⊢; rw [bx_other n0]; exact q); clear gF hF)
 (try go_wp2_with fail)
 refine hK.out _ _ ?_ (fun hHeld3 => ?_)
 ·(try dsimp only); exact ⟨qA, qB⟩
 clear hK K hHeld2
 (try simp only [Act.put, wymetBy6, xA, xB, xC])
 refine wpAnyH_done (by kernel_rfl) ?_ _
 go_wp2
 refine bodyPost_ret (v := .agg #[.int .i64 (0), .int .i64 (3652424), .int .i64 (S - 1), .int .i64 (S - 1)]) (by simp [results, Tryz.results179, go_sem, x0, x1, x2, x3]) rfl ⟨rfl, KFH.out⟩
abbrev wyafter0 : Oper := ⟨some 3, .call ⟨.value (.func 222), #[], #[]⟩, 42, "box.go:84", #[], none⟩
abbrev wyafter1 : Oper := ⟨some 4, .fieldAddr 133 (.tmp 1) 0, 0, "box.go:84", #[], none⟩
abbrev wyafter2 : Oper := ⟨some 5, .load 3 (.tmp 4), 3, "box.go:84", #[⟨1, .data⟩], none⟩
abbrev wyafter3 : Oper := ⟨some 6, .binOp .sub 3 (.tmp 5) (.const (.int .i64 2)) 3, 3, "box.go:84", #[⟨2, .data⟩], none⟩
abbrev wyafter4 : Oper := ⟨some 7, .call ⟨.value (.func 224), #[.tmp 6], #[3]⟩, 42, "box.go:84", #[⟨3, .data⟩, ⟨0, .chain⟩], none⟩
abbrev wyafter5 : Oper := ⟨some 8, .build 132 #[(0, .tmp 3), (1, .tmp 7)], 132, "box.go:84", #[⟨0, .data⟩, ⟨4, .data⟩], none⟩
abbrev wyafter6 : Oper := ⟨none, .store 132 (.tmp 2) (.tmp 8), 0, "box.go:84", #[⟨5, .data⟩, ⟨4, .chain⟩, ⟨0, .phase⟩, ⟨1, .phase⟩, ⟨2, .phase⟩, ⟨3, .phase⟩, ⟨4, .phase⟩, ⟨5, .phase⟩], none⟩
theorem after_way (S T : Int) (w : World) (h1 : 0 ≤ S) (h2 : S ≤ 4000000) (h3 : 0 ≤ T) (h4 : T ≤ 4000000) : Calls Tryz.prog 180 #[.agg #[.int .i64 S, .int .i64 T]] w fun e w' => e = .returned (.agg #[.int .i64 (0), .int .i64 (3652424), .int .i64 (0), .int .i64 (S - 2)]) ∧ Kp w w' := by
 obtain ⟨W0, hW⟩ : ∃ x, x = (w.alloc (.cells #[.int .i64 S, .int .i64 T] 133)).alloc (.cells #[.int .i64 0, .int .i64 0, .int .i64 0, .int .i64 0] 132) := ⟨_, rfl⟩
 have k0 : Kp w W0 := by rw [hW]; exact (Kp.alloc _ _).trans (Kp.alloc _ _)
 have gA : W0.heap[w.heap.size]? = some (.cells #[.int .i64 S, .int .i64 T] 133 (0, 0)) := by rw [hW]; exact heap_block (Kp.alloc _ _) (heap_at _ _ _ rfl)
 have gB : W0.heap[w.heap.size + 1]? = some (.cells #[.int .i64 0, .int .i64 0, .int .i64 0, .int .i64 0] 132 (0, 0)) := by rw [hW]; exact heap_at _ _ _ (by simp)
 have hz : W0.heap.size = w.heap.size + 2 := by rw [hW]; simp
 have K0 := Hd k0
 have GB := Hd (fun w1 (q : Kp W0 w1) => heap_block q gB)
 have KS := Hd (fun w' (kq : Kp W0 w') => show w'.cell? ⟨w.heap.size, 0, none⟩ = some (.int .i64 S) ∧ w'.cell? ⟨w.heap.size, 1, none⟩ = some (.int .i64 T) ∧ Kp W0 w' from ⟨(row2 (heap_block kq gA)).1, (row2 (heap_block kq gA)).2, kq⟩)
 have k00 : Kp W0 W0 := Kp.refl _
 have wS1 : IntKind.i64.wrap (S + 1) = S + 1 := by rw [IntKind.wrap_i64]; omega
 have wS2 : IntKind.i64.wrap (S - 1) = S - 1 := by rw [IntKind.wrap_i64]; omega
 have wS3 : IntKind.i64.wrap (S - 2) = S - 2 := by rw [IntKind.wrap_i64]; omega
 have wT1 : IntKind.i64.wrap (T + 1) = T + 1 := by rw [IntKind.wrap_i64]; omega
 have wT2 : IntKind.i64.wrap (T - 1) = T - 1 := by rw [IntKind.wrap_i64]; omega
 have wT3 : IntKind.i64.wrap (T + 2) = T + 2 := by rw [IntKind.wrap_i64]; omega
 have HW := Hd hW
 clear hW gA gB k0
 go_enter Tryz.func180, Tryz.ntmps180
 go_upto_region 1 with fail
 rw [← HW.out]
 refine wp_region_held_drew (S := fun w' => w'.cell? ⟨w.heap.size, 0, none⟩ = some (.int .i64 S) ∧ w'.cell? ⟨w.heap.size, 1, none⟩ = some (.int .i64 T)) (by kernel_rfl) ?_ (fun hHeld0 => ?_)
 ·(try dsimp only); exact ⟨(KS.out _ (ky k00)).1, (KS.out _ (ky k00)).2.1⟩
 refine tkv 1 wyafter1 ?_
 (try simp only [Act.put, wyafter1, xA, xB, xC])
 refine tkv 2 wyafter2 ?_
 (try simp only [Act.put, wyafter2, xA, xB, xC])
 refine tkv 3 wyafter3 ?_
 (try simp only [Act.put, wyafter3, xA, xB, xC])
 refine tkE 0 wyafter0 rfl (by kernel_rfl) (fun K hK => ?_)
 go_simp
 (refine (anyDay_any _).mono ?_; rintro e w1 ⟨rfl, kq1⟩; have kw1 : Kp W0 w1 := Kp.trans (show Kp W0 _ from (ky k00)) kq1; clear kq1)
 (try go_wp2_with fail)
 refine hK.out _ _ ?_ (fun hHeld1 => ?_)
 ·(try dsimp only); exact ⟨(KS.out _ (ky kw1)).1, (KS.out _ (ky kw1)).2.1⟩
 clear hK K hHeld0
 (try simp only [Act.put, wyafter0, xA, xB, xC])
 refine tkE 4 wyafter4 rfl (by kernel_rfl) (fun K hK => ?_)
 go_simp
 (refine (upTo_any _ _).mono ?_; rintro e w2 ⟨rfl, kq1⟩; have kw2 : Kp W0 w2 := Kp.trans (show Kp W0 _ from (ky kw1)) kq1; clear kq1)
 (try go_wp2_with fail)
 refine hK.out _ _ ?_ (fun hHeld2 => ?_)
 ·(try dsimp only); exact ⟨(KS.out _ (ky kw2)).1, (KS.out _ (ky kw2)).2.1⟩
 clear hK K hHeld1
 (try simp only [Act.put, wyafter4, xA, xB, xC])
 refine tkv 5 wyafter5 ?_
 (try simp only [Act.put, wyafter5, xA, xB, xC])
 refine tkE 6 wyafter6 rfl (by kernel_rfl) (fun K hK => ?_)
 (refine bx_store (W := w) rfl 132 (.tmp 2) (.tmp 8) rfl (w.heap.size + 1) [.int .i64 (0), .int .i64 (3652424), .int .i64 (0), .int .i64 (S - 2)] #[.int .i64 0, .int .i64 0, .int .i64 0, .int .i64 0] (by simp [Act.eval, Act.put, wS1, wS2, wS3, wT1, wT2, wT3]) (by simp [Act.eval, Act.put, wS1, wS2, wS3, wT1, wT2, wT3]) (K0.out.trans (ky kw2)) (by omega) (GB.out _ (ky kw2)) (Nat.le_refl 4) (by kernel_rfl) (by kernel_rfl) (by simp [Value.oneCell']) ?_; intro F hF KF gF; have KFH := Hd KF; obtain ⟨x0, x1, x2, x3⟩ := row4 gF; have qA : F.cell? ⟨w.heap.size, 0, none⟩ = some (.int .i64 S) := (by rw [hF]; have q := (KS.out _ (ky kw2)).1; have n0 : w.heap.size ≠ w.heap.size + 1 := (by omega); simp only [World.cell?] at q ⊢; rw [bx_other n0]; exact q); have qB : F.cell? ⟨w.heap.size, 1, none⟩ = some (.int .i64 T) := (by rw [hF]; have q := (KS.out _ (ky kw2)).2.1; have n0 : w.heap.size ≠ w.heap.size + 1 := (by omega); simp only [World.cell?] at q ⊢; rw [bx_other n0]; exact q); clear gF hF)
 (try go_wp2_with fail)
 refine hK.out _ _ ?_ (fun hHeld3 => ?_)
 ·(try dsimp only); exact ⟨qA, qB⟩
 clear hK K hHeld2
 (try simp only [Act.put, wyafter6, xA, xB, xC])
 refine wpAnyH_done (by kernel_rfl) ?_ _
 go_wp2
 refine bodyPost_ret (v := .agg #[.int .i64 (0), .int .i64 (3652424), .int .i64 (0), .int .i64 (S - 2)]) (by simp [results, Tryz.results180, go_sem, x0, x1, x2, x3]) rfl ⟨rfl, KFH.out⟩
end Go.Proofs.YtcooaoponkkpeaaGreatDoor
