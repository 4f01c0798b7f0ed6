import Derived.Test.YtcooaoponkkpeaaGreatDoor20R
set_option maxHeartbeats 16000000
namespace Go.Proofs.YtcooaoponkkpeaaGreatDoor
open Go.RowKit Go.Shelf
set_option linter.unusedVariables false
set_option linter.unusedSimpArgs false
abbrev qbA0 : Oper := ⟨some 12, .load 57 (.tmp 2), 57, "ref.go:123", #[], none⟩
abbrev qbA1 : Oper := ⟨some 13, .load 57 (.tmp 3), 57, "ref.go:123", #[], none⟩
abbrev qbA2 : Oper := ⟨some 14, .call ⟨.value (.func 64), #[.tmp 12, .tmp 13], #[57, 57]⟩, 3, "ref.go:123", #[⟨0, .data⟩, ⟨1, .data⟩], none⟩
abbrev qbA3 : Oper := ⟨some 15, .load 57 (.tmp 3), 57, "ref.go:123", #[], none⟩
abbrev qbA4 : Oper := ⟨some 16, .load 57 (.tmp 2), 57, "ref.go:123", #[], none⟩
abbrev qbA5 : Oper := ⟨some 17, .call ⟨.value (.func 64), #[.tmp 15, .tmp 16], #[57, 57]⟩, 3, "ref.go:123", #[⟨3, .data⟩, ⟨4, .data⟩, ⟨2, .chain⟩], none⟩
abbrev qbA6 : Oper := ⟨some 18, .call ⟨.value (.func 65), #[.tmp 17], #[3]⟩, 3, "ref.go:123", #[⟨5, .data⟩, ⟨5, .chain⟩], none⟩
abbrev qbA7 : Oper := ⟨some 19, .binOp .or 3 (.tmp 14) (.tmp 18) 3, 3, "ref.go:123", #[⟨2, .data⟩, ⟨6, .data⟩], none⟩
abbrev qbA8 : Oper := ⟨some 20, .fieldAddr 57 (.tmp 2) 1, 0, "ref.go:123", #[], none⟩
abbrev qbA9 : Oper := ⟨some 21, .load 34 (.tmp 20), 34, "ref.go:123", #[⟨8, .data⟩], none⟩
abbrev qbA10 : Oper := ⟨some 22, .fieldAddr 57 (.tmp 3) 1, 0, "ref.go:123", #[], none⟩
abbrev qbA11 : Oper := ⟨some 23, .load 34 (.tmp 22), 34, "ref.go:123", #[⟨10, .data⟩], none⟩
abbrev qbA12 : Oper := ⟨some 24, .call ⟨.value (.func 67), #[.tmp 21, .tmp 23], #[34, 34]⟩, 34, "ref.go:123", #[⟨9, .data⟩, ⟨11, .data⟩, ⟨6, .chain⟩], none⟩
abbrev qbA13 : Oper := ⟨some 25, .call ⟨.builtin .len, #[.tmp 24], #[34]⟩, 3, "ref.go:123", #[⟨12, .data⟩], none⟩
abbrev qbA14 : Oper := ⟨some 26, .binOp .gtr 3 (.tmp 25) (.const (.int .i64 0)) 3, 4, "ref.go:123", #[⟨13, .data⟩], none⟩
abbrev qbA15 : Oper := ⟨some 27, .call ⟨.value (.func 66), #[.const (.int .i64 6), .tmp 26], #[3, 4]⟩, 3, "ref.go:123", #[⟨14, .data⟩, ⟨12, .chain⟩], none⟩
abbrev qbA16 : Oper := ⟨some 28, .binOp .or 3 (.tmp 19) (.tmp 27) 3, 3, "ref.go:123", #[⟨7, .data⟩, ⟨15, .data⟩], none⟩
abbrev qbA17 : Oper := ⟨some 4, .assign (.tmp 28), 3, "ref.go:123", #[⟨16, .data⟩, ⟨15, .chain⟩, ⟨0, .phase⟩, ⟨1, .phase⟩, ⟨2, .phase⟩, ⟨3, .phase⟩, ⟨4, .phase⟩, ⟨5, .phase⟩, ⟨6, .phase⟩, ⟨7, .phase⟩, ⟨8, .phase⟩, ⟨9, .phase⟩, ⟨10, .phase⟩, ⟨11, .phase⟩, ⟨12, .phase⟩, ⟨13, .phase⟩, ⟨14, .phase⟩, ⟨15, .phase⟩, ⟨16, .phase⟩], none⟩
abbrev qbB0 : Oper := ⟨some 42, .load 57 (.tmp 2), 57, "ref.go:129", #[], none⟩
abbrev qbB1 : Oper := ⟨some 43, .load 57 (.tmp 3), 57, "ref.go:129", #[], none⟩
abbrev qbB2 : Oper := ⟨some 44, .call ⟨.value (.func 69), #[.tmp 42, .tmp 43], #[57, 57]⟩, 3, "ref.go:129", #[⟨0, .data⟩, ⟨1, .data⟩], none⟩
abbrev qbB3 : Oper := ⟨some 45, .load 57 (.tmp 3), 57, "ref.go:129", #[], none⟩
abbrev qbB4 : Oper := ⟨some 46, .load 57 (.tmp 2), 57, "ref.go:129", #[], none⟩
abbrev qbB5 : Oper := ⟨some 47, .call ⟨.value (.func 69), #[.tmp 45, .tmp 46], #[57, 57]⟩, 3, "ref.go:129", #[⟨3, .data⟩, ⟨4, .data⟩, ⟨2, .chain⟩], none⟩
abbrev qbB6 : Oper := ⟨some 48, .call ⟨.value (.func 65), #[.tmp 47], #[3]⟩, 3, "ref.go:129", #[⟨5, .data⟩, ⟨5, .chain⟩], none⟩
abbrev qbB7 : Oper := ⟨some 49, .binOp .or 3 (.tmp 44) (.tmp 48) 3, 3, "ref.go:129", #[⟨2, .data⟩, ⟨6, .data⟩], none⟩
abbrev qbB8 : Oper := ⟨some 4, .assign (.tmp 49), 3, "ref.go:129", #[⟨7, .data⟩, ⟨6, .chain⟩, ⟨0, .phase⟩, ⟨1, .phase⟩, ⟨2, .phase⟩, ⟨3, .phase⟩, ⟨4, .phase⟩, ⟨5, .phase⟩, ⟨6, .phase⟩, ⟨7, .phase⟩], none⟩
theorem qboth_tt {A B C D : List R} (va vb vc vd : Value) (w : World) (ha : RunsAt w va A) (hb : RunsAt w vb B) (hc : RunsAt w vc C) (hd : RunsAt w vd D) (H : LsOkP true A B) (H' : LsOkP true C D) (nA : A.length ≤ 1000) (nB : B.length ≤ 1000) (nC : C.length ≤ 1000) (nD : D.length ≤ 1000) :
  Calls Tryz.prog 30 #[.agg #[.bool true, va, vb], .agg #[.bool true, vc, vd]] w fun e w' => e = .returned (.int .i64 (daM A B C D : Nat)) ∧ Kp w w' := by
 have N0 := Hd (show (0 : Nat) = 0 from rfl)
 have G0 := Hd (show RunsAt w va A ∧ RunsAt w vb B ∧ RunsAt w vc C ∧ RunsAt w vd D from ⟨ha, hb, hc, hd⟩)
 obtain ⟨aa, ca, rfl⟩ := ha.slice
 obtain ⟨ab, cb, rfl⟩ := hb.slice
 obtain ⟨ac, cc, rfl⟩ := hc.slice
 obtain ⟨ad, cd, rfl⟩ := hd.slice
 obtain ⟨v0, hV⟩ : ∃ x, x = (w.alloc (.cells #[.bool true, .slice aa A.length ca, .slice ab B.length cb] 57)).alloc (.cells #[.bool true, .slice ac C.length cc, .slice ad D.length cd] 57) := ⟨_, rfl⟩
 have ka : Kp w v0 := by rw [hV]; exact (Kp.alloc _ _).trans (Kp.alloc _ _)
 have gf : v0.heap[w.heap.size]? = some (.cells #[.bool true, .slice aa A.length ca, .slice ab B.length cb] 57 (0, 0)) := by rw [hV]; exact heap_block (Kp.alloc _ _) (heap_at _ _ _ rfl)
 have gg : v0.heap[w.heap.size + 1]? = some (.cells #[.bool true, .slice ac C.length cc, .slice ad D.length cd] 57 (0, 0)) := by rw [hV]; exact heap_at _ _ _ (by simp)
 have KS := Hd (fun w' (kq : Kp v0 w') => show w'.cell? ⟨w.heap.size, 0, none⟩ = some (.bool true) ∧ w'.cell? ⟨w.heap.size, 1, none⟩ = some (.slice aa A.length ca) ∧ w'.cell? ⟨w.heap.size, 2, none⟩ = some (.slice ab B.length cb) ∧ w'.cell? ⟨w.heap.size + 1, 0, none⟩ = some (.bool true) ∧ w'.cell? ⟨w.heap.size + 1, 1, none⟩ = some (.slice ac C.length cc) ∧ w'.cell? ⟨w.heap.size + 1, 2, none⟩ = some (.slice ad D.length cd) ∧ Kp v0 w' from ⟨(row3 (heap_block kq gf)).1, (row3 (heap_block kq gf)).2.1, (row3 (heap_block kq gf)).2.2, (row3 (heap_block kq gg)).1, (row3 (heap_block kq gg)).2.1, (row3 (heap_block kq gg)).2.2, kq⟩)
 have HV := Hd hV
 have KA := Hd ka
 have ha := ha.kp ka
 have hb := hb.kp ka
 have hc := hc.kp ka
 have hd := hd.kp ka
 have bA0 := H.ba _ H.lo.1
 have bB0 := H.bb _ H.lo.2.2.2.1
 have bA1 := H.ba _ H.hi.2.2.2.1
 have bB1 := H.bb _ H.hi.1
 have bC0 := H'.ba _ H'.lo.1
 have bD0 := H'.bb _ H'.lo.2.2.2.1
 have bC1 := H'.ba _ H'.hi.2.2.2.1
 have bD1 := H'.bb _ H'.hi.1
 have AP := Hd (fun w1 (k : Kp v0 w1) => qapart_any (.slice aa A.length ca) (.slice ab B.length cb) (.slice ac C.length cc) (.slice ad D.length cd) w1 (hb.kp k) (hc.kp k) H H' nB nC)
 have AQ := Hd (fun w1 (k : Kp v0 w1) => qapart_any (.slice ac C.length cc) (.slice ad D.length cd) (.slice aa A.length ca) (.slice ab B.length cb) w1 (hd.kp k) (ha.kp k) H' H nD nA)
 have FL := Hd (fun (w1 : World) => refFlip_any ((apM D A : Nat) : Int) w1)
 rw [flN_int] at FL
 have MS := Hd (fun w1 (k : Kp v0 w1) => rmeet_any _ _ A C w1 (ha.kp k) (hc.kp k) (sane_i64 H.sa) (sane_i64 H'.sa) (by omega) (by omega))
 have Q6 := Hd (fun (b : Bool) (w1 : World) => (show Calls Tryz.prog 66 #[.int .i64 6, .bool b] w1 fun e w' => e = .returned (.int .i64 (btQ 6 b : Nat)) ∧ w1 = w' from qbit_any 6 (by decide) b w1))
 have L0 := apM_lt B C
 unfold daM
 have P0 := ak_or L0 (flN_lt (apM D A))
 have L1 := bt_orlt L0 (flN_lt (apM D A))
 obtain ⟨o6, h6⟩ : ∃ x, decide (0 < (interR A C).length) = x := ⟨_, rfl⟩
 rw [h6]
 generalize apM B C ||| flN (apM D A) = m1 at *
 generalize flN (apM D A) = f0 at *
 generalize apM B C = m0 at *
 generalize apM D A = g0 at *
 have P6 := ak_or L1 (bt_lt (k := 6) (by decide) o6)
 generalize m1 ||| btQ 6 o6 = m2 at *
 generalize interR A C = E at *
 have gl : decide ((E.length : Int) > 0) = o6 := by rw [← h6]; exact decide_eq_decide.2 (by omega)
 have gl' : decide ((0 : Int) < (E.length : Int)) = o6 := by rw [← h6]; exact decide_eq_decide.2 (by omega)
 clear L0 L1
 clear ha hb hc hd H H' bA0 bB0 bA1 bB1 bC0 bD0 bC1 bD1 nA nB nC nD hV gf gg ka G0 N0
 have kkv0 : Kp v0 v0 := Kp.refl _
 go_enter Tryz.func30, Tryz.ntmps30
 go_upto_region 1 with fail
 rw [← HV.out]
 clear HV
 obtain ⟨x0, x1, x2, x3, x4, x5, _⟩ := KS.out _ kkv0
 go_upto_region 2 with fail
 refine wp_region_held_drew (S := fun w' => w'.cell? ⟨w.heap.size, 0, none⟩ = some (.bool true) ∧ w'.cell? ⟨w.heap.size, 1, none⟩ = some (.slice aa A.length ca) ∧ w'.cell? ⟨w.heap.size, 2, none⟩ = some (.slice ab B.length cb) ∧ w'.cell? ⟨w.heap.size + 1, 0, none⟩ = some (.bool true) ∧ w'.cell? ⟨w.heap.size + 1, 1, none⟩ = some (.slice ac C.length cc) ∧ w'.cell? ⟨w.heap.size + 1, 2, none⟩ = some (.slice ad D.length cd) ∧ Kp v0 w') (by kernel_rfl) ?_ (fun hHeld0 => ?_)
 ·(try dsimp only); exact KS.out _ (ky kkv0)
 refine tkv 0 qbA0 ?_
 (try simp only [Act.put, qbA0, xA, xB, xC])
 refine tkv 1 qbA1 ?_
 (try simp only [Act.put, qbA1, xA, xB, xC])
 refine tkv 3 qbA3 ?_
 (try simp only [Act.put, qbA3, xA, xB, xC])
 refine tkv 4 qbA4 ?_
 (try simp only [Act.put, qbA4, xA, xB, xC])
 refine tkv 8 qbA8 ?_
 (try simp only [Act.put, qbA8, xA, xB, xC])
 refine tkv 9 qbA9 ?_
 (try simp only [Act.put, qbA9, xA, xB, xC])
 refine tkv 10 qbA10 ?_
 (try simp only [Act.put, qbA10, xA, xB, xC])
 refine tkv 11 qbA11 ?_
 (try simp only [Act.put, qbA11, xA, xB, xC])
 refine tkE 2 qbA2 rfl (by kernel_rfl) (fun K hK => ?_)
 go_simp
 (refine (AP.out _ (ky kkv0)).mono ?_; rintro e wa ⟨rfl, kq1⟩; have kkwa : Kp v0 wa := Kp.trans (show Kp v0 _ from (ky kkv0)) kq1; clear kq1)
 (try go_wp2_with fail)
 refine hK.out _ _ ?_ (fun hHeld1 => ?_)
 ·(try dsimp only); exact KS.out _ (ky kkwa)
 clear hK K hHeld0
 (try simp only [Act.put, qbA2, xA, xB, xC])
 refine tkE 5 qbA5 rfl (by kernel_rfl) (fun K hK => ?_)
 go_simp
 (refine (AQ.out _ (ky kkwa)).mono ?_; rintro e wb ⟨rfl, kq1⟩; have kkwb : Kp v0 wb := Kp.trans (show Kp v0 _ from (ky kkwa)) kq1; clear kq1)
 (try go_wp2_with fail)
 refine hK.out _ _ ?_ (fun hHeld2 => ?_)
 ·(try dsimp only); exact KS.out _ (ky kkwb)
 clear hK K hHeld1
 (try simp only [Act.put, qbA5, xA, xB, xC])
 refine tkE 6 qbA6 rfl (by kernel_rfl) (fun K hK => ?_)
 go_simp
 (refine (FL.out _).mono ?_; rintro e w' ⟨rfl, rfl⟩)
 (try go_wp2_with fail)
 refine hK.out _ _ ?_ (fun hHeld3 => ?_)
 ·(try dsimp only); exact KS.out _ (ky kkwb)
 clear hK K hHeld2
 (try simp only [Act.put, qbA6, xA, xB, xC])
 refine tkv 7 qbA7 ?_
 (try simp only [Act.put, qbA7, xA, xB, xC])
 refine tkE 12 qbA12 rfl (by kernel_rfl) (fun K hK => ?_)
 go_simp
 (refine (MS.out _ (ky kkwb)).mono ?_; rintro e wc ⟨v1, rfl, o1, kq1⟩; have kkwc : Kp v0 wc := Kp.trans (show Kp v0 _ from (ky kkwb)) kq1; obtain ⟨a1, c1, rfl⟩ := o1.slice; clear o1; clear kq1)
 (try go_wp2_with fail)
 refine hK.out _ _ ?_ (fun hHeld4 => ?_)
 ·(try dsimp only); exact KS.out _ (ky kkwc)
 clear hK K hHeld3
 (try simp only [Act.put, qbA12, xA, xB, xC])
 refine tkv 13 qbA13 ?_
 (try simp only [Act.put, qbA13, xA, xB, xC])
 refine tkv 14 qbA14 ?_
 (try simp only [Act.put, qbA14, xA, xB, xC])
 refine tkE 15 qbA15 rfl (by kernel_rfl) (fun K hK => ?_)
 go_simp
 (refine (Q6.out _ _).mono ?_; rintro e w' ⟨rfl, rfl⟩)
 (try go_wp2_with fail)
 refine hK.out _ _ ?_ (fun hHeld5 => ?_)
 ·(try dsimp only); exact KS.out _ (ky kkwc)
 clear hK K hHeld4
 (try simp only [Act.put, qbA15, xA, xB, xC])
 refine tkv 16 qbA16 ?_
 (try simp only [Act.put, qbA16, xA, xB, xC])
 refine tkv 17 qbA17 ?_
 (try simp only [Act.put, qbA17, xA, xB, xC])
 refine wpAnyH_done (by kernel_rfl) ?_ _
 go_wp2
 go_ret
 exact ⟨rfl, KA.out.trans (ky kkwc)⟩
theorem qboth_tf {A B C D : List R} (va vb vc vd : Value) (w : World) (ha : RunsAt w va A) (hb : RunsAt w vb B) (hc : RunsAt w vc C) (hd : RunsAt w vd D) (H : LsOkP true A B) (H' : LsOkP false C D) (nA : A.length ≤ 1000) (nB : B.length ≤ 1000) (nC : C.length ≤ 1000) (nD : D.length ≤ 1000) :
  Calls Tryz.prog 30 #[.agg #[.bool true, va, vb], .agg #[.bool false, vc, vd]] w fun e w' => e = .returned (.int .i64 (siM A B C D : Nat)) ∧ Kp w w' := by
 have N0 := Hd (show (0 : Nat) = 0 from rfl)
 have G0 := Hd (show RunsAt w va A ∧ RunsAt w vb B ∧ RunsAt w vc C ∧ RunsAt w vd D from ⟨ha, hb, hc, hd⟩)
 obtain ⟨aa, ca, rfl⟩ := ha.slice
 obtain ⟨ab, cb, rfl⟩ := hb.slice
 obtain ⟨ac, cc, rfl⟩ := hc.slice
 obtain ⟨ad, cd, rfl⟩ := hd.slice
 obtain ⟨v0, hV⟩ : ∃ x, x = (w.alloc (.cells #[.bool true, .slice aa A.length ca, .slice ab B.length cb] 57)).alloc (.cells #[.bool false, .slice ac C.length cc, .slice ad D.length cd] 57) := ⟨_, rfl⟩
 have ka : Kp w v0 := by rw [hV]; exact (Kp.alloc _ _).trans (Kp.alloc _ _)
 have gf : v0.heap[w.heap.size]? = some (.cells #[.bool true, .slice aa A.length ca, .slice ab B.length cb] 57 (0, 0)) := by rw [hV]; exact heap_block (Kp.alloc _ _) (heap_at _ _ _ rfl)
 have gg : v0.heap[w.heap.size + 1]? = some (.cells #[.bool false, .slice ac C.length cc, .slice ad D.length cd] 57 (0, 0)) := by rw [hV]; exact heap_at _ _ _ (by simp)
 have KS := Hd (fun w' (kq : Kp v0 w') => show w'.cell? ⟨w.heap.size, 0, none⟩ = some (.bool true) ∧ w'.cell? ⟨w.heap.size, 1, none⟩ = some (.slice aa A.length ca) ∧ w'.cell? ⟨w.heap.size, 2, none⟩ = some (.slice ab B.length cb) ∧ w'.cell? ⟨w.heap.size + 1, 0, none⟩ = some (.bool false) ∧ w'.cell? ⟨w.heap.size + 1, 1, none⟩ = some (.slice ac C.length cc) ∧ w'.cell? ⟨w.heap.size + 1, 2, none⟩ = some (.slice ad D.length cd) ∧ Kp v0 w' from ⟨(row3 (heap_block kq gf)).1, (row3 (heap_block kq gf)).2.1, (row3 (heap_block kq gf)).2.2, (row3 (heap_block kq gg)).1, (row3 (heap_block kq gg)).2.1, (row3 (heap_block kq gg)).2.2, kq⟩)
 have HV := Hd hV
 have KA := Hd ka
 have ha := ha.kp ka
 have hb := hb.kp ka
 have hc := hc.kp ka
 have hd := hd.kp ka
 have bA0 := H.ba _ H.lo.1
 have bB0 := H.bb _ H.lo.2.2.2.1
 have bA1 := H.ba _ H.hi.2.2.2.1
 have bB1 := H.bb _ H.hi.1
 have bC0 := H'.ba _ H'.lo.1
 have bD0 := H'.bb _ H'.lo.2.2.2.1
 have bC1 := H'.ba _ H'.hi.2.2.2.1
 have bD1 := H'.bb _ H'.hi.1
 have SI := Hd (fun w1 (k : Kp v0 w1) => qsing_any (.slice aa A.length ca) (.slice ab B.length cb) (.slice ac C.length cc) (.slice ad D.length cd) w1 (ha.kp k) (hb.kp k) (hc.kp k) (hd.kp k) H H' nA nB nC nD)
 generalize siM A B C D = m0 at *
 clear ha hb hc hd H H' bA0 bB0 bA1 bB1 bC0 bD0 bC1 bD1 nA nB nC nD hV gf gg ka G0 N0
 have kkv0 : Kp v0 v0 := Kp.refl _
 go_enter Tryz.func30, Tryz.ntmps30
 go_upto_region 1 with fail
 rw [← HV.out]
 clear HV
 obtain ⟨x0, x1, x2, x3, x4, x5, _⟩ := KS.out _ kkv0
 go_wp2_with fail
 refine (SI.out _ kkv0).mono ?_
 rintro e wa ⟨rfl, k1⟩
 have K1 := Hd (KA.out.trans k1)
 clear k1 kkv0
 go_wp2
 go_ret
 exact ⟨rfl, K1.out⟩
theorem qboth_ft {A B C D : List R} (va vb vc vd : Value) (w : World) (ha : RunsAt w va A) (hb : RunsAt w vb B) (hc : RunsAt w vc C) (hd : RunsAt w vd D) (H : LsOkP false A B) (H' : LsOkP true C D) (nA : A.length ≤ 1000) (nB : B.length ≤ 1000) (nC : C.length ≤ 1000) (nD : D.length ≤ 1000) :
  Calls Tryz.prog 30 #[.agg #[.bool false, va, vb], .agg #[.bool true, vc, vd]] w fun e w' => e = .returned (.int .i64 (flN (siM C D A B) : Nat)) ∧ Kp w w' := by
 have N0 := Hd (show (0 : Nat) = 0 from rfl)
 have G0 := Hd (show RunsAt w va A ∧ RunsAt w vb B ∧ RunsAt w vc C ∧ RunsAt w vd D from ⟨ha, hb, hc, hd⟩)
 obtain ⟨aa, ca, rfl⟩ := ha.slice
 obtain ⟨ab, cb, rfl⟩ := hb.slice
 obtain ⟨ac, cc, rfl⟩ := hc.slice
 obtain ⟨ad, cd, rfl⟩ := hd.slice
 obtain ⟨v0, hV⟩ : ∃ x, x = (w.alloc (.cells #[.bool false, .slice aa A.length ca, .slice ab B.length cb] 57)).alloc (.cells #[.bool true, .slice ac C.length cc, .slice ad D.length cd] 57) := ⟨_, rfl⟩
 have ka : Kp w v0 := by rw [hV]; exact (Kp.alloc _ _).trans (Kp.alloc _ _)
 have gf : v0.heap[w.heap.size]? = some (.cells #[.bool false, .slice aa A.length ca, .slice ab B.length cb] 57 (0, 0)) := by rw [hV]; exact heap_block (Kp.alloc _ _) (heap_at _ _ _ rfl)
 have gg : v0.heap[w.heap.size + 1]? = some (.cells #[.bool true, .slice ac C.length cc, .slice ad D.length cd] 57 (0, 0)) := by rw [hV]; exact heap_at _ _ _ (by simp)
 have KS := Hd (fun w' (kq : Kp v0 w') => show w'.cell? ⟨w.heap.size, 0, none⟩ = some (.bool false) ∧ w'.cell? ⟨w.heap.size, 1, none⟩ = some (.slice aa A.length ca) ∧ w'.cell? ⟨w.heap.size, 2, none⟩ = some (.slice ab B.length cb) ∧ w'.cell? ⟨w.heap.size + 1, 0, none⟩ = some (.bool true) ∧ w'.cell? ⟨w.heap.size + 1, 1, none⟩ = some (.slice ac C.length cc) ∧ w'.cell? ⟨w.heap.size + 1, 2, none⟩ = some (.slice ad D.length cd) ∧ Kp v0 w' from ⟨(row3 (heap_block kq gf)).1, (row3 (heap_block kq gf)).2.1, (row3 (heap_block kq gf)).2.2, (row3 (heap_block kq gg)).1, (row3 (heap_block kq gg)).2.1, (row3 (heap_block kq gg)).2.2, kq⟩)
 have HV := Hd hV
 have KA := Hd ka
 have ha := ha.kp ka
 have hb := hb.kp ka
 have hc := hc.kp ka
 have hd := hd.kp ka
 have bA0 := H.ba _ H.lo.1
 have bB0 := H.bb _ H.lo.2.2.2.1
 have bA1 := H.ba _ H.hi.2.2.2.1
 have bB1 := H.bb _ H.hi.1
 have bC0 := H'.ba _ H'.lo.1
 have bD0 := H'.bb _ H'.lo.2.2.2.1
 have bC1 := H'.ba _ H'.hi.2.2.2.1
 have bD1 := H'.bb _ H'.hi.1
 have SI := Hd (fun w1 (k : Kp v0 w1) => qsing_any (.slice ac C.length cc) (.slice ad D.length cd) (.slice aa A.length ca) (.slice ab B.length cb) w1 (hc.kp k) (hd.kp k) (ha.kp k) (hb.kp k) H' H nC nD nA nB)
 have FL := Hd (fun (w1 : World) => refFlip_any ((siM C D A B : Nat) : Int) w1)
 rw [flN_int] at FL
 generalize flN (siM C D A B) = f0 at *
 generalize siM C D A B = m0 at *
 clear ha hb hc hd H H' bA0 bB0 bA1 bB1 bC0 bD0 bC1 bD1 nA nB nC nD hV gf gg ka G0 N0
 have kkv0 : Kp v0 v0 := Kp.refl _
 go_enter Tryz.func30, Tryz.ntmps30
 go_upto_region 1 with fail
 rw [← HV.out]
 clear HV
 obtain ⟨x0, x1, x2, x3, x4, x5, _⟩ := KS.out _ kkv0
 go_wp2_with fail
 refine (SI.out _ kkv0).mono ?_
 rintro e wa ⟨rfl, k1⟩
 have K1 := Hd (KA.out.trans k1)
 clear k1 kkv0
 go_wp2_with fail
 refine (FL.out _).mono ?_
 rintro e w' ⟨rfl, rfl⟩
 go_wp2
 go_ret
 exact ⟨rfl, K1.out⟩
theorem qboth_ff {A B C D : List R} (va vb vc vd : Value) (w : World) (ha : RunsAt w va A) (hb : RunsAt w vb B) (hc : RunsAt w vc C) (hd : RunsAt w vd D) (H : LsOkP false A B) (H' : LsOkP false C D) (nA : A.length ≤ 1000) (nB : B.length ≤ 1000) (nC : C.length ≤ 1000) (nD : D.length ≤ 1000) :
  Calls Tryz.prog 30 #[.agg #[.bool false, va, vb], .agg #[.bool false, vc, vd]] w fun e w' => e = .returned (.int .i64 (haM A B C D ||| flN (haM C D A B) : Nat)) ∧ Kp w w' := by
 have N0 := Hd (show (0 : Nat) = 0 from rfl)
 have G0 := Hd (show RunsAt w va A ∧ RunsAt w vb B ∧ RunsAt w vc C ∧ RunsAt w vd D from ⟨ha, hb, hc, hd⟩)
 obtain ⟨aa, ca, rfl⟩ := ha.slice
 obtain ⟨ab, cb, rfl⟩ := hb.slice
 obtain ⟨ac, cc, rfl⟩ := hc.slice
 obtain ⟨ad, cd, rfl⟩ := hd.slice
 obtain ⟨v0, hV⟩ : ∃ x, x = (w.alloc (.cells #[.bool false, .slice aa A.length ca, .slice ab B.length cb] 57)).alloc (.cells #[.bool false, .slice ac C.length cc, .slice ad D.length cd] 57) := ⟨_, rfl⟩
 have ka : Kp w v0 := by rw [hV]; exact (Kp.alloc _ _).trans (Kp.alloc _ _)
 have gf : v0.heap[w.heap.size]? = some (.cells #[.bool false, .slice aa A.length ca, .slice ab B.length cb] 57 (0, 0)) := by rw [hV]; exact heap_block (Kp.alloc _ _) (heap_at _ _ _ rfl)
 have gg : v0.heap[w.heap.size + 1]? = some (.cells #[.bool false, .slice ac C.length cc, .slice ad D.length cd] 57 (0, 0)) := by rw [hV]; exact heap_at _ _ _ (by simp)
 have KS := Hd (fun w' (kq : Kp v0 w') => show w'.cell? ⟨w.heap.size, 0, none⟩ = some (.bool false) ∧ w'.cell? ⟨w.heap.size, 1, none⟩ = some (.slice aa A.length ca) ∧ w'.cell? ⟨w.heap.size, 2, none⟩ = some (.slice ab B.length cb) ∧ w'.cell? ⟨w.heap.size + 1, 0, none⟩ = some (.bool false) ∧ w'.cell? ⟨w.heap.size + 1, 1, none⟩ = some (.slice ac C.length cc) ∧ w'.cell? ⟨w.heap.size + 1, 2, none⟩ = some (.slice ad D.length cd) ∧ Kp v0 w' from ⟨(row3 (heap_block kq gf)).1, (row3 (heap_block kq gf)).2.1, (row3 (heap_block kq gf)).2.2, (row3 (heap_block kq gg)).1, (row3 (heap_block kq gg)).2.1, (row3 (heap_block kq gg)).2.2, kq⟩)
 have HV := Hd hV
 have KA := Hd ka
 have ha := ha.kp ka
 have hb := hb.kp ka
 have hc := hc.kp ka
 have hd := hd.kp ka
 have bA0 := H.ba _ H.lo.1
 have bB0 := H.bb _ H.lo.2.2.2.1
 have bA1 := H.ba _ H.hi.2.2.2.1
 have bB1 := H.bb _ H.hi.1
 have bC0 := H'.ba _ H'.lo.1
 have bD0 := H'.bb _ H'.lo.2.2.2.1
 have bC1 := H'.ba _ H'.hi.2.2.2.1
 have bD1 := H'.bb _ H'.hi.1
 have F1 := Hd (fun w1 (k : Kp v0 w1) => qhalf_any (.slice aa A.length ca) (.slice ab B.length cb) (.slice ac C.length cc) (.slice ad D.length cd) w1 (ha.kp k) (hb.kp k) (hc.kp k) (hd.kp k) H H' nA nB nC nD)
 have F2 := Hd (fun w1 (k : Kp v0 w1) => qhalf_any (.slice ac C.length cc) (.slice ad D.length cd) (.slice aa A.length ca) (.slice ab B.length cb) w1 (hc.kp k) (hd.kp k) (ha.kp k) (hb.kp k) H' H nC nD nA nB)
 have FL := Hd (fun (w1 : World) => refFlip_any ((haM C D A B : Nat) : Int) w1)
 rw [flN_int] at FL
 have P0 := ak_or (haM_lt A B C D) (flN_lt (haM C D A B))
 generalize haM A B C D ||| flN (haM C D A B) = m2 at *
 generalize flN (haM C D A B) = f0 at *
 generalize haM A B C D = m0 at *
 generalize haM C D A B = m1 at *
 clear ha hb hc hd H H' bA0 bB0 bA1 bB1 bC0 bD0 bC1 bD1 nA nB nC nD hV gf gg ka G0 N0
 have kkv0 : Kp v0 v0 := Kp.refl _
 go_enter Tryz.func30, Tryz.ntmps30
 go_upto_region 1 with fail
 rw [← HV.out]
 clear HV
 obtain ⟨x0, x1, x2, x3, x4, x5, _⟩ := KS.out _ kkv0
 go_upto_region 7 with fail
 refine wp_region_held_drew (S := fun w' => w'.cell? ⟨w.heap.size, 0, none⟩ = some (.bool false) ∧ w'.cell? ⟨w.heap.size, 1, none⟩ = some (.slice aa A.length ca) ∧ w'.cell? ⟨w.heap.size, 2, none⟩ = some (.slice ab B.length cb) ∧ w'.cell? ⟨w.heap.size + 1, 0, none⟩ = some (.bool false) ∧ w'.cell? ⟨w.heap.size + 1, 1, none⟩ = some (.slice ac C.length cc) ∧ w'.cell? ⟨w.heap.size + 1, 2, none⟩ = some (.slice ad D.length cd) ∧ Kp v0 w') (by kernel_rfl) ?_ (fun hHeld0 => ?_)
 ·(try dsimp only); exact KS.out _ (ky kkv0)
 refine tkv 0 qbB0 ?_
 (try simp only [Act.put, qbB0, xA, xB, xC])
 refine tkv 1 qbB1 ?_
 (try simp only [Act.put, qbB1, xA, xB, xC])
 refine tkv 3 qbB3 ?_
 (try simp only [Act.put, qbB3, xA, xB, xC])
 refine tkv 4 qbB4 ?_
 (try simp only [Act.put, qbB4, xA, xB, xC])
 refine tkE 2 qbB2 rfl (by kernel_rfl) (fun K hK => ?_)
 go_simp
 (refine (F1.out _ (ky kkv0)).mono ?_; rintro e wa ⟨rfl, kq1⟩; have kkwa : Kp v0 wa := Kp.trans (show Kp v0 _ from (ky kkv0)) kq1; clear kq1)
 (try go_wp2_with fail)
 refine hK.out _ _ ?_ (fun hHeld1 => ?_)
 ·(try dsimp only); exact KS.out _ (ky kkwa)
 clear hK K hHeld0
 (try simp only [Act.put, qbB2, xA, xB, xC])
 refine tkE 5 qbB5 rfl (by kernel_rfl) (fun K hK => ?_)
 go_simp
 (refine (F2.out _ (ky kkwa)).mono ?_; rintro e wb ⟨rfl, kq1⟩; have kkwb : Kp v0 wb := Kp.trans (show Kp v0 _ from (ky kkwa)) kq1; clear kq1)
 (try go_wp2_with fail)
 refine hK.out _ _ ?_ (fun hHeld2 => ?_)
 ·(try dsimp only); exact KS.out _ (ky kkwb)
 clear hK K hHeld1
 (try simp only [Act.put, qbB5, xA, xB, xC])
 refine tkE 6 qbB6 rfl (by kernel_rfl) (fun K hK => ?_)
 go_simp
 (refine (FL.out _).mono ?_; rintro e w' ⟨rfl, rfl⟩)
 (try go_wp2_with fail)
 refine hK.out _ _ ?_ (fun hHeld3 => ?_)
 ·(try dsimp only); exact KS.out _ (ky kkwb)
 clear hK K hHeld2
 (try simp only [Act.put, qbB6, xA, xB, xC])
 refine tkv 7 qbB7 ?_
 (try simp only [Act.put, qbB7, xA, xB, xC])
 refine tkv 8 qbB8 ?_
 (try simp only [Act.put, qbB8, xA, xB, xC])
 refine wpAnyH_done (by kernel_rfl) ?_ _
 go_wp2
 go_ret
 exact ⟨rfl, KA.out.trans (ky kkwb)⟩
theorem qboth_any {d d' : Bool} {A B C D : List R} (va vb vc vd : Value) (w : World) (ha : RunsAt w va A) (hb : RunsAt w vb B) (hc : RunsAt w vc C) (hd : RunsAt w vd D) (H : LsOkP d A B) (H' : LsOkP d' C D) (nA : A.length ≤ 1000) (nB : B.length ≤ 1000) (nC : C.length ≤ 1000) (nD : D.length ≤ 1000) :
  Calls Tryz.prog 30 #[.agg #[.bool d, va, vb], .agg #[.bool d', vc, vd]] w fun e w' => e = .returned (.int .i64 (boM d d' A B C D : Nat)) ∧ Kp w w' := by
 cases d with
 | true =>
  cases d' with
  | true => exact qboth_tt va vb vc vd w ha hb hc hd H H' nA nB nC nD
  | false => exact qboth_tf va vb vc vd w ha hb hc hd H H' nA nB nC nD
 | false =>
  cases d' with
  | true => exact qboth_ft va vb vc vd w ha hb hc hd H H' nA nB nC nD
  | false => exact qboth_ff va vb vc vd w ha hb hc hd H H' nA nB nC nD
end Go.Proofs.YtcooaoponkkpeaaGreatDoor
