import Derived.Test.YtcooaoponkkpeaaGreatDoorJQb
namespace Go.Proofs.YtcooaoponkkpeaaGreatDoor
open Go.RowKit Go.Shelf
set_option linter.unusedVariables false
set_option linter.unusedSimpArgs false
abbrev qdA0 : Oper := ⟨some 10, .fieldAddr 57 (.tmp 2) 1, 0, "ref.go:79", #[], none⟩
abbrev qdA1 : Oper := ⟨some 11, .load 34 (.tmp 10), 34, "ref.go:79", #[⟨0, .data⟩], none⟩
abbrev qdA2 : Oper := ⟨some 12, .fieldAddr 57 (.tmp 3) 1, 0, "ref.go:79", #[], none⟩
abbrev qdA3 : Oper := ⟨some 13, .load 34 (.tmp 12), 34, "ref.go:79", #[⟨2, .data⟩], none⟩
abbrev qdA4 : Oper := ⟨some 14, .call ⟨.value (.func 122), #[.tmp 13], #[34]⟩, 3, "ref.go:79", #[⟨3, .data⟩], none⟩
abbrev qdA5 : Oper := ⟨some 15, .binOp .add 3 (.tmp 14) (.const (.int .i64 1)) 3, 3, "ref.go:79", #[⟨4, .data⟩], none⟩
abbrev qdA6 : Oper := ⟨some 16, .call ⟨.value (.func 125), #[.tmp 11, .tmp 15], #[34, 3]⟩, 113, "ref.go:79", #[⟨1, .data⟩, ⟨5, .data⟩, ⟨4, .chain⟩], none⟩
abbrev qdA7 : Oper := ⟨some 9, .move (.tmp 16), 113, "ref.go:79", #[⟨6, .data⟩], none⟩
abbrev qdA8 : Oper := ⟨some 17, .extract (.tmp 9) 0, 3, "ref.go:79", #[⟨7, .data⟩], none⟩
abbrev qdA9 : Oper := { dst := some 18, op := Go.Op.extract (Go.Operand.tmp 9) 1, type := 4, pos := "ref.go:79", after := #[{ on := 7, ground := Go.Ground.data }, { on := 10, ground := Go.Ground.gcOnly Go.Departure.lateStores }], guard := none }
abbrev qdA10 : Oper := { dst := some 5, op := Go.Op.assign (Go.Operand.tmp 17), type := 3, pos := "ref.go:79", after := #[{ on := 8, ground := Go.Ground.data }, { on := 6, ground := Go.Ground.chain }, { on := 0, ground := Go.Ground.phase }, { on := 1, ground := Go.Ground.phase }, { on := 2, ground := Go.Ground.phase }, { on := 3, ground := Go.Ground.phase }, { on := 4, ground := Go.Ground.phase }, { on := 5, ground := Go.Ground.phase }, { on := 6, ground := Go.Ground.phase }, { on := 7, ground := Go.Ground.phase }, { on := 8, ground := Go.Ground.phase }, { on := 9, ground := Go.Ground.textOnly Go.Departure.lateStores }], guard := none }
abbrev qdA11 : Oper := ⟨some 6, .assign (.tmp 18), 4, "ref.go:79", #[⟨9, .data⟩, ⟨10, .chain⟩, ⟨0, .phase⟩, ⟨1, .phase⟩, ⟨2, .phase⟩, ⟨3, .phase⟩, ⟨4, .phase⟩, ⟨5, .phase⟩, ⟨6, .phase⟩, ⟨7, .phase⟩, ⟨8, .phase⟩, ⟨9, .phase⟩, ⟨10, .phase⟩], none⟩
theorem qdur_any {d d' : Bool} {A B C D : List R} (va vb vc vd : Value) (w : World) (ha : RunsAt w va A) (hb : RunsAt w vb B) (hc : RunsAt w vc C) (hd : RunsAt w vd D) (H : LsOkP d A B) (H' : LsOkP d' C D) (nA : A.length ≤ 1000) (nB : B.length ≤ 1000) (nC : C.length ≤ 1000) (nD : D.length ≤ 1000) :
  Calls Tryz.prog 128 #[.agg #[.bool d, va, vb], .agg #[.bool d', vc, vd]] w fun e w' => e = .returned (.bool (duB A B C D)) ∧ Kp w w' := by
 have N0 := Hd (show (0 : Nat) = 0 from rfl)
 have G0 := Hd (show RunsAt w va A ∧ RunsAt w vb B ∧ RunsAt w vc C ∧ RunsAt w vd D from ⟨ha, hb, hc, hd⟩)
 obtain ⟨aa, ca, rfl⟩ := ha.slice
 obtain ⟨ab, cb, rfl⟩ := hb.slice
 obtain ⟨ac, cc, rfl⟩ := hc.slice
 obtain ⟨ad, cd, rfl⟩ := hd.slice
 obtain ⟨v0, hV⟩ : ∃ x, x = (w.alloc (.cells #[.bool d, .slice aa A.length ca, .slice ab B.length cb] 57)).alloc (.cells #[.bool d', .slice ac C.length cc, .slice ad D.length cd] 57) := ⟨_, rfl⟩
 have ka : Kp w v0 := by rw [hV]; exact (Kp.alloc _ _).trans (Kp.alloc _ _)
 have gf : v0.heap[w.heap.size]? = some (.cells #[.bool d, .slice aa A.length ca, .slice ab B.length cb] 57 (0, 0)) := by rw [hV]; exact heap_block (Kp.alloc _ _) (heap_at _ _ _ rfl)
 have gg : v0.heap[w.heap.size + 1]? = some (.cells #[.bool d', .slice ac C.length cc, .slice ad D.length cd] 57 (0, 0)) := by rw [hV]; exact heap_at _ _ _ (by simp)
 have KS := Hd (fun w' (kq : Kp v0 w') => show w'.cell? ⟨w.heap.size, 0, none⟩ = some (.bool d) ∧ w'.cell? ⟨w.heap.size, 1, none⟩ = some (.slice aa A.length ca) ∧ w'.cell? ⟨w.heap.size, 2, none⟩ = some (.slice ab B.length cb) ∧ w'.cell? ⟨w.heap.size + 1, 0, none⟩ = some (.bool d') ∧ w'.cell? ⟨w.heap.size + 1, 1, none⟩ = some (.slice ac C.length cc) ∧ w'.cell? ⟨w.heap.size + 1, 2, none⟩ = some (.slice ad D.length cd) ∧ Kp v0 w' from ⟨(row3 (heap_block kq gf)).1, (row3 (heap_block kq gf)).2.1, (row3 (heap_block kq gf)).2.2, (row3 (heap_block kq gg)).1, (row3 (heap_block kq gg)).2.1, (row3 (heap_block kq gg)).2.2, kq⟩)
 have HV := Hd hV
 have KA := Hd ka
 have ha := ha.kp ka
 have hb := hb.kp ka
 have hc := hc.kp ka
 have hd := hd.kp ka
 have bA0 := H.ba _ H.lo.1
 have bB0 := H.bb _ H.lo.2.2.2.1
 have bA1 := H.ba _ H.hi.2.2.2.1
 have bB1 := H.bb _ H.hi.1
 have bC0 := H'.ba _ H'.lo.1
 have bD0 := H'.bb _ H'.lo.2.2.2.1
 have bC1 := H'.ba _ H'.hi.2.2.2.1
 have bD1 := H'.bb _ H'.hi.1
 have LC := Hd (fun w1 (k : Kp v0 w1) => qlow_any _ C w1 (hc.kp k) H'.na)
 have GD := Hd (fun w1 (k : Kp v0 w1) => qhigh_any _ D w1 (hd.kp k) H'.nb (by omega))
 have NA := Hd (fun w1 (k : Kp v0 w1) => rnext_of _ A (leastR C + 1) w1 (by have := asR_any _ A w1 (ha.kp k) (sane_i64 H.sa) (by omega); rwa [nf_of_sane H.sa] at this) (by omega))
 have NB := Hd (fun (y : Int) w1 (k : Kp v0 w1) => rnext_of _ B y w1 (by have := asR_any _ B w1 (hb.kp k) (sane_i64 H.sb) (by omega); rwa [nf_of_sane H.sb] at this) (by omega))
 have wl : IntKind.i64.wrap (leastR C + 1) = leastR C + 1 := by rw [IntKind.wrap_i64]; omega
 obtain ⟨r, hr⟩ : ∃ r, duB A B C D = r := ⟨_, rfl⟩
 rw [hr]
 unfold duB at hr
 generalize nxt A (leastR C + 1) = n at *
 obtain ⟨y1, y2⟩ := n
 simp only at NA hr
 replace NB := Hd (NB.out y1)
 generalize nxt B y1 = m at *
 obtain ⟨z1, z2⟩ := m
 simp only at NB hr
 generalize leastR C = lo at *
 generalize greatR D = hi at *
 have HR := Hd hr
 clear hr
 clear ha hb hc hd H H' bA0 bB0 bA1 bB1 bC0 bD0 bC1 bD1 nA nB nC nD hV gf gg ka G0 N0
 have kkv0 : Kp v0 v0 := Kp.refl _
 go_enter Tryz.func128, Tryz.ntmps128
 go_upto_region 1 with fail
 rw [← HV.out]
 clear HV
 refine wp_region_held_drew (S := fun w' => w'.cell? ⟨w.heap.size, 0, none⟩ = some (.bool d) ∧ w'.cell? ⟨w.heap.size, 1, none⟩ = some (.slice aa A.length ca) ∧ w'.cell? ⟨w.heap.size, 2, none⟩ = some (.slice ab B.length cb) ∧ w'.cell? ⟨w.heap.size + 1, 0, none⟩ = some (.bool d') ∧ w'.cell? ⟨w.heap.size + 1, 1, none⟩ = some (.slice ac C.length cc) ∧ w'.cell? ⟨w.heap.size + 1, 2, none⟩ = some (.slice ad D.length cd) ∧ Kp v0 w') (by kernel_rfl) ?_ (fun hHeld0 => ?_)
 ·(try dsimp only); exact KS.out _ (ky kkv0)
 refine tkv 0 qdA0 ?_
 (try simp only [Act.put, qdA0, xA, xB, xC])
 refine tkv 1 qdA1 ?_
 (try simp only [Act.put, qdA1, xA, xB, xC])
 refine tkv 2 qdA2 ?_
 (try simp only [Act.put, qdA2, xA, xB, xC])
 refine tkv 3 qdA3 ?_
 (try simp only [Act.put, qdA3, xA, xB, xC])
 refine tkE 4 qdA4 rfl (by kernel_rfl) (fun K hK => ?_)
 go_simp
 (refine (LC.out _ (ky kkv0)).mono ?_; rintro e w' ⟨rfl, rfl⟩)
 (try go_wp2_with fail)
 refine hK.out _ _ ?_ (fun hHeld1 => ?_)
 ·(try dsimp only); exact KS.out _ (ky kkv0)
 clear hK K hHeld0
 (try simp only [Act.put, qdA4, xA, xB, xC])
 refine tkv 5 qdA5 ?_
 (try simp only [Act.put, qdA5, xA, xB, xC])
 refine tkE 6 qdA6 rfl (by kernel_rfl) (fun K hK => ?_)
 go_simp
 (refine (NA.out _ (ky kkv0)).mono ?_; rintro e wa ⟨rfl, kq1⟩; have kkwa : Kp v0 wa := Kp.trans (show Kp v0 _ from (ky kkv0)) kq1; clear kq1)
 (try go_wp2_with fail)
 refine hK.out _ _ ?_ (fun hHeld2 => ?_)
 ·(try dsimp only); exact KS.out _ (ky kkwa)
 clear hK K hHeld1
 (try simp only [Act.put, qdA6, xA, xB, xC])
 refine tkv 7 qdA7 ?_
 (try simp only [Act.put, qdA7, xA, xB, xC])
 refine tkv 8 qdA8 ?_
 (try simp only [Act.put, qdA8, xA, xB, xC])
 refine tkv 9 qdA9 ?_
 (try simp only [Act.put, qdA9, xA, xB, xC])
 refine tkv 10 qdA10 ?_
 (try simp only [Act.put, qdA10, xA, xB, xC])
 refine tkv 11 qdA11 ?_
 (try simp only [Act.put, qdA11, xA, xB, xC])
 refine wpAnyH_done (by kernel_rfl) ?_ _
 cases y2 with
 | false =>
  have rr : r = false := by rw [← HR.out]; rfl
  go_wp2
  go_ret
  exact ⟨ret_bool rr.symm, KA.out.trans (ky kkwa)⟩
 | true =>
  go_wp2_with fail
  refine (NB.out _ (ky kkwa)).mono ?_
  rintro e wb ⟨rfl, k2⟩
  have kkwb : Kp v0 wb := Kp.trans (show Kp v0 _ from (ky kkwa)) k2
  clear k2
  obtain ⟨x0, x1, x2, x3, x4, x5, _⟩ := KS.out _ kkwb
  cases z2 with
  | false =>
   have rr : r = false := by rw [← HR.out]; rfl
   go_wp2
   go_ret
   exact ⟨ret_bool rr.symm, KA.out.trans kkwb⟩
  | true =>
   have rr : r = decide (z1 < hi) := by rw [← HR.out]; rfl
   go_wp2_with fail
   refine (GD.out _ kkwb).mono ?_
   rintro e w' ⟨rfl, rfl⟩
   go_wp2
   go_ret
   exact ⟨ret_bool rr.symm, KA.out.trans kkwb⟩
theorem qeq_any {d d' : Bool} {A B C D : List R} (va vb vc vd : Value) (w : World) (ha : RunsAt w va A) (hb : RunsAt w vb B) (hc : RunsAt w vc C) (hd : RunsAt w vd D) (H : LsOkP d A B) (H' : LsOkP d' C D) (nA : A.length ≤ 1000) (nB : B.length ≤ 1000) (nC : C.length ≤ 1000) (nD : D.length ≤ 1000) :
  Calls Tryz.prog 130 #[.agg #[.bool d, va, vb], .agg #[.bool d', vc, vd]] w fun e w' => e = .returned (.bool (eqB A B C D)) ∧ Kp w w' := by
 have N0 := Hd (show (0 : Nat) = 0 from rfl)
 have G0 := Hd (show RunsAt w va A ∧ RunsAt w vb B ∧ RunsAt w vc C ∧ RunsAt w vd D from ⟨ha, hb, hc, hd⟩)
 obtain ⟨aa, ca, rfl⟩ := ha.slice
 obtain ⟨ab, cb, rfl⟩ := hb.slice
 obtain ⟨ac, cc, rfl⟩ := hc.slice
 obtain ⟨ad, cd, rfl⟩ := hd.slice
 obtain ⟨v0, hV⟩ : ∃ x, x = (w.alloc (.cells #[.bool d, .slice aa A.length ca, .slice ab B.length cb] 57)).alloc (.cells #[.bool d', .slice ac C.length cc, .slice ad D.length cd] 57) := ⟨_, rfl⟩
 have ka : Kp w v0 := by rw [hV]; exact (Kp.alloc _ _).trans (Kp.alloc _ _)
 have gf : v0.heap[w.heap.size]? = some (.cells #[.bool d, .slice aa A.length ca, .slice ab B.length cb] 57 (0, 0)) := by rw [hV]; exact heap_block (Kp.alloc _ _) (heap_at _ _ _ rfl)
 have gg : v0.heap[w.heap.size + 1]? = some (.cells #[.bool d', .slice ac C.length cc, .slice ad D.length cd] 57 (0, 0)) := by rw [hV]; exact heap_at _ _ _ (by simp)
 have KS := Hd (fun w' (kq : Kp v0 w') => show w'.cell? ⟨w.heap.size, 0, none⟩ = some (.bool d) ∧ w'.cell? ⟨w.heap.size, 1, none⟩ = some (.slice aa A.length ca) ∧ w'.cell? ⟨w.heap.size, 2, none⟩ = some (.slice ab B.length cb) ∧ w'.cell? ⟨w.heap.size + 1, 0, none⟩ = some (.bool d') ∧ w'.cell? ⟨w.heap.size + 1, 1, none⟩ = some (.slice ac C.length cc) ∧ w'.cell? ⟨w.heap.size + 1, 2, none⟩ = some (.slice ad D.length cd) ∧ Kp v0 w' from ⟨(row3 (heap_block kq gf)).1, (row3 (heap_block kq gf)).2.1, (row3 (heap_block kq gf)).2.2, (row3 (heap_block kq gg)).1, (row3 (heap_block kq gg)).2.1, (row3 (heap_block kq gg)).2.2, kq⟩)
 have HV := Hd hV
 have KA := Hd ka
 have ha := ha.kp ka
 have hb := hb.kp ka
 have hc := hc.kp ka
 have hd := hd.kp ka
 have bA0 := H.ba _ H.lo.1
 have bB0 := H.bb _ H.lo.2.2.2.1
 have bA1 := H.ba _ H.hi.2.2.2.1
 have bB1 := H.bb _ H.hi.1
 have bC0 := H'.ba _ H'.lo.1
 have bD0 := H'.bb _ H'.lo.2.2.2.1
 have bC1 := H'.ba _ H'.hi.2.2.2.1
 have bD1 := H'.bb _ H'.hi.1
 have MS := Hd (fun w1 (k : Kp v0 w1) => rmeet_any _ _ A C w1 (ha.kp k) (hc.kp k) (sane_i64 H.sa) (sane_i64 H'.sa) (by omega) (by omega))
 have ME := Hd (fun w1 (k : Kp v0 w1) => rmeet_any _ _ B D w1 (hb.kp k) (hd.kp k) (sane_i64 H.sb) (sane_i64 H'.sb) (by omega) (by omega))
 have n1 := interR_len H.sa H'.sa
 have n2 := interR_len H.sb H'.sb
 have LE := Hd (fun v w1 (h : RunsAt w1 v (interR A C)) (h0 : 0 < (interR A C).length) => qlow_any v _ w1 h h0)
 have GE := Hd (fun v w1 (h : RunsAt w1 v (interR B D)) (h0 : 0 < (interR B D).length) => qhigh_any v _ w1 h h0 (by omega))
 obtain ⟨r, hr⟩ : ∃ r, eqB A B C D = r := ⟨_, rfl⟩
 rw [hr]
 unfold eqB at hr
 generalize leastR (interR A C) = lo at *
 generalize greatR (interR B D) = hi at *
 generalize interR A C = E at *
 generalize interR B D = F at *
 have HR := Hd hr
 clear hr n1 n2
 clear ha hb hc hd H H' bA0 bB0 bA1 bB1 bC0 bD0 bC1 bD1 nA nB nC nD hV gf gg ka G0 N0
 have kkv0 : Kp v0 v0 := Kp.refl _
 go_enter Tryz.func130, Tryz.ntmps130
 go_upto_region 1 with fail
 rw [← HV.out]
 clear HV
 obtain ⟨x0, x1, x2, x3, x4, x5, _⟩ := KS.out _ kkv0
 go_wp2_with fail
 refine (MS.out _ kkv0).mono ?_
 rintro e wa ⟨v1, rfl, o1, k1⟩
 have kkwa : Kp v0 wa := k1
 obtain ⟨a1, c1, rfl⟩ := o1.slice
 clear x0 x1 x2 x3 x4 x5
 obtain ⟨x0, x1, x2, x3, x4, x5, _⟩ := KS.out _ kkwa
 go_wp2_with fail
 refine (ME.out _ kkwa).mono ?_
 rintro e wb ⟨v2, rfl, o2, k2⟩
 have kkwb : Kp v0 wb := kkwa.trans k2
 obtain ⟨a2, c2, rfl⟩ := o2.slice
 have O1 := Hd (o1.kp k2)
 have O2 := Hd o2
 clear o1 o2 k1 k2
 clear x0 x1 x2 x3 x4 x5
 by_cases hE : E.length = 0
 ·have e1 : decide ((E.length : Int) > 0) = false := dF
  have e1' : decide ((0 : Int) < (E.length : Int)) = false := dF
  have e2 : decide (0 < E.length) = false := dF
  have rr : r = false := by rw [← HR.out, e2]; rfl
  go_wp2
  go_ret
  exact ⟨ret_bool rr.symm, KA.out.trans kkwb⟩
 have e3 : 0 < E.length := by omega
 have e1 : decide ((E.length : Int) > 0) = true := dT
 have e1' : decide ((0 : Int) < (E.length : Int)) = true := dT
 have e2 := Hd (show decide (0 < E.length) = true from decide_eq_true e3)
 by_cases hF : F.length = 0
 ·have f1 : decide ((F.length : Int) > 0) = false := dF
  have f1' : decide ((0 : Int) < (F.length : Int)) = false := dF
  have f2 : decide (0 < F.length) = false := dF
  have rr : r = false := by rw [← HR.out, e2.out, f2]; rfl
  go_wp2
  go_ret
  exact ⟨ret_bool rr.symm, KA.out.trans kkwb⟩
 have f3 : 0 < F.length := by omega
 have f1 : decide ((F.length : Int) > 0) = true := dT
 have f1' : decide ((0 : Int) < (F.length : Int)) = true := dT
 have f2 := Hd (show decide (0 < F.length) = true from decide_eq_true f3)
 have rr : r = decide (lo ≤ hi) := by rw [← HR.out, e2.out, f2.out]; rfl
 go_wp2_with fail
 refine (LE.out _ _ O1.out e3).mono ?_
 rintro e w' ⟨rfl, rfl⟩
 go_wp2_with fail
 refine (GE.out _ _ O2.out f3).mono ?_
 rintro e w' ⟨rfl, rfl⟩
 go_wp2
 go_ret
 exact ⟨ret_bool rr.symm, KA.out.trans kkwb⟩
abbrev qhA0 : Oper := ⟨some 5, .load 57 (.tmp 2), 57, "ref.go:116", #[], none⟩
abbrev qhA1 : Oper := ⟨some 6, .load 57 (.tmp 3), 57, "ref.go:116", #[], none⟩
abbrev qhA2 : Oper := ⟨some 7, .call ⟨.value (.func 64), #[.tmp 5, .tmp 6], #[57, 57]⟩, 3, "ref.go:116", #[⟨0, .data⟩, ⟨1, .data⟩], none⟩
abbrev qhA3 : Oper := ⟨some 8, .load 57 (.tmp 2), 57, "ref.go:116", #[], none⟩
abbrev qhA4 : Oper := ⟨some 9, .load 57 (.tmp 3), 57, "ref.go:116", #[], none⟩
abbrev qhA5 : Oper := ⟨some 10, .call ⟨.value (.func 126), #[.tmp 8, .tmp 9], #[57, 57]⟩, 4, "ref.go:116", #[⟨3, .data⟩, ⟨4, .data⟩, ⟨2, .chain⟩], none⟩
abbrev qhA6 : Oper := ⟨some 11, .call ⟨.value (.func 66), #[.const (.int .i64 2), .tmp 10], #[3, 4]⟩, 3, "ref.go:116", #[⟨5, .data⟩, ⟨5, .chain⟩], none⟩
abbrev qhA7 : Oper := ⟨some 12, .binOp .or 3 (.tmp 7) (.tmp 11) 3, 3, "ref.go:116", #[⟨2, .data⟩, ⟨6, .data⟩], none⟩
abbrev qhA8 : Oper := ⟨some 13, .load 57 (.tmp 2), 57, "ref.go:116", #[], none⟩
abbrev qhA9 : Oper := ⟨some 14, .load 57 (.tmp 3), 57, "ref.go:116", #[], none⟩
abbrev qhA10 : Oper := ⟨some 15, .call ⟨.value (.func 127), #[.tmp 13, .tmp 14], #[57, 57]⟩, 4, "ref.go:116", #[⟨8, .data⟩, ⟨9, .data⟩, ⟨6, .chain⟩], none⟩
abbrev qhA11 : Oper := ⟨some 16, .call ⟨.value (.func 66), #[.const (.int .i64 3), .tmp 15], #[3, 4]⟩, 3, "ref.go:116", #[⟨10, .data⟩, ⟨10, .chain⟩], none⟩
abbrev qhA12 : Oper := ⟨some 17, .binOp .or 3 (.tmp 12) (.tmp 16) 3, 3, "ref.go:116", #[⟨7, .data⟩, ⟨11, .data⟩], none⟩
abbrev qhA13 : Oper := ⟨some 18, .load 57 (.tmp 2), 57, "ref.go:116", #[], none⟩
abbrev qhA14 : Oper := ⟨some 19, .load 57 (.tmp 3), 57, "ref.go:116", #[], none⟩
abbrev qhA15 : Oper := ⟨some 20, .call ⟨.value (.func 128), #[.tmp 18, .tmp 19], #[57, 57]⟩, 4, "ref.go:116", #[⟨13, .data⟩, ⟨14, .data⟩, ⟨11, .chain⟩], none⟩
abbrev qhA16 : Oper := ⟨some 21, .call ⟨.value (.func 66), #[.const (.int .i64 4), .tmp 20], #[3, 4]⟩, 3, "ref.go:116", #[⟨15, .data⟩, ⟨15, .chain⟩], none⟩
abbrev qhA17 : Oper := ⟨some 22, .binOp .or 3 (.tmp 17) (.tmp 21) 3, 3, "ref.go:116", #[⟨12, .data⟩, ⟨16, .data⟩], none⟩
abbrev qhA18 : Oper := ⟨some 23, .load 57 (.tmp 2), 57, "ref.go:116", #[], none⟩
abbrev qhA19 : Oper := ⟨some 24, .load 57 (.tmp 3), 57, "ref.go:116", #[], none⟩
abbrev qhA20 : Oper := ⟨some 25, .call ⟨.value (.func 129), #[.tmp 23, .tmp 24], #[57, 57]⟩, 4, "ref.go:116", #[⟨18, .data⟩, ⟨19, .data⟩, ⟨16, .chain⟩], none⟩
abbrev qhA21 : Oper := ⟨some 26, .call ⟨.value (.func 66), #[.const (.int .i64 5), .tmp 25], #[3, 4]⟩, 3, "ref.go:116", #[⟨20, .data⟩, ⟨20, .chain⟩], none⟩
abbrev qhA22 : Oper := ⟨some 27, .binOp .or 3 (.tmp 22) (.tmp 26) 3, 3, "ref.go:116", #[⟨17, .data⟩, ⟨21, .data⟩], none⟩
abbrev qhA23 : Oper := ⟨some 28, .load 57 (.tmp 2), 57, "ref.go:116", #[], none⟩
abbrev qhA24 : Oper := ⟨some 29, .load 57 (.tmp 3), 57, "ref.go:116", #[], none⟩
abbrev qhA25 : Oper := ⟨some 30, .call ⟨.value (.func 130), #[.tmp 28, .tmp 29], #[57, 57]⟩, 4, "ref.go:116", #[⟨23, .data⟩, ⟨24, .data⟩, ⟨21, .chain⟩], none⟩
abbrev qhA26 : Oper := ⟨some 31, .call ⟨.value (.func 66), #[.const (.int .i64 6), .tmp 30], #[3, 4]⟩, 3, "ref.go:116", #[⟨25, .data⟩, ⟨25, .chain⟩], none⟩
abbrev qhA27 : Oper := ⟨some 32, .binOp .or 3 (.tmp 27) (.tmp 31) 3, 3, "ref.go:116", #[⟨22, .data⟩, ⟨26, .data⟩], none⟩
abbrev qhA28 : Oper := ⟨some 4, .assign (.tmp 32), 3, "ref.go:116", #[⟨27, .data⟩, ⟨26, .chain⟩, ⟨0, .phase⟩, ⟨1, .phase⟩, ⟨2, .phase⟩, ⟨3, .phase⟩, ⟨4, .phase⟩, ⟨5, .phase⟩, ⟨6, .phase⟩, ⟨7, .phase⟩, ⟨8, .phase⟩, ⟨9, .phase⟩, ⟨10, .phase⟩, ⟨11, .phase⟩, ⟨12, .phase⟩, ⟨13, .phase⟩, ⟨14, .phase⟩, ⟨15, .phase⟩, ⟨16, .phase⟩, ⟨17, .phase⟩, ⟨18, .phase⟩, ⟨19, .phase⟩, ⟨20, .phase⟩, ⟨21, .phase⟩, ⟨22, .phase⟩, ⟨23, .phase⟩, ⟨24, .phase⟩, ⟨25, .phase⟩, ⟨26, .phase⟩, ⟨27, .phase⟩], none⟩
theorem qhalf_any {d d' : Bool} {A B C D : List R} (va vb vc vd : Value) (w : World) (ha : RunsAt w va A) (hb : RunsAt w vb B) (hc : RunsAt w vc C) (hd : RunsAt w vd D) (H : LsOkP d A B) (H' : LsOkP d' C D) (nA : A.length ≤ 1000) (nB : B.length ≤ 1000) (nC : C.length ≤ 1000) (nD : D.length ≤ 1000) :
  Calls Tryz.prog 69 #[.agg #[.bool d, va, vb], .agg #[.bool d', vc, vd]] w fun e w' => e = .returned (.int .i64 (haM A B C D : Nat)) ∧ Kp w w' := by
 have N0 := Hd (show (0 : Nat) = 0 from rfl)
 have G0 := Hd (show RunsAt w va A ∧ RunsAt w vb B ∧ RunsAt w vc C ∧ RunsAt w vd D from ⟨ha, hb, hc, hd⟩)
 obtain ⟨aa, ca, rfl⟩ := ha.slice
 obtain ⟨ab, cb, rfl⟩ := hb.slice
 obtain ⟨ac, cc, rfl⟩ := hc.slice
 obtain ⟨ad, cd, rfl⟩ := hd.slice
 obtain ⟨v0, hV⟩ : ∃ x, x = (w.alloc (.cells #[.bool d, .slice aa A.length ca, .slice ab B.length cb] 57)).alloc (.cells #[.bool d', .slice ac C.length cc, .slice ad D.length cd] 57) := ⟨_, rfl⟩
 have ka : Kp w v0 := by rw [hV]; exact (Kp.alloc _ _).trans (Kp.alloc _ _)
 have gf : v0.heap[w.heap.size]? = some (.cells #[.bool d, .slice aa A.length ca, .slice ab B.length cb] 57 (0, 0)) := by rw [hV]; exact heap_block (Kp.alloc _ _) (heap_at _ _ _ rfl)
 have gg : v0.heap[w.heap.size + 1]? = some (.cells #[.bool d', .slice ac C.length cc, .slice ad D.length cd] 57 (0, 0)) := by rw [hV]; exact heap_at _ _ _ (by simp)
 have KS := Hd (fun w' (kq : Kp v0 w') => show w'.cell? ⟨w.heap.size, 0, none⟩ = some (.bool d) ∧ w'.cell? ⟨w.heap.size, 1, none⟩ = some (.slice aa A.length ca) ∧ w'.cell? ⟨w.heap.size, 2, none⟩ = some (.slice ab B.length cb) ∧ w'.cell? ⟨w.heap.size + 1, 0, none⟩ = some (.bool d') ∧ w'.cell? ⟨w.heap.size + 1, 1, none⟩ = some (.slice ac C.length cc) ∧ w'.cell? ⟨w.heap.size + 1, 2, none⟩ = some (.slice ad D.length cd) ∧ Kp v0 w' from ⟨(row3 (heap_block kq gf)).1, (row3 (heap_block kq gf)).2.1, (row3 (heap_block kq gf)).2.2, (row3 (heap_block kq gg)).1, (row3 (heap_block kq gg)).2.1, (row3 (heap_block kq gg)).2.2, kq⟩)
 have HV := Hd hV
 have KA := Hd ka
 have ha := ha.kp ka
 have hb := hb.kp ka
 have hc := hc.kp ka
 have hd := hd.kp ka
 have bA0 := H.ba _ H.lo.1
 have bB0 := H.bb _ H.lo.2.2.2.1
 have bA1 := H.ba _ H.hi.2.2.2.1
 have bB1 := H.bb _ H.hi.1
 have bC0 := H'.ba _ H'.lo.1
 have bD0 := H'.bb _ H'.lo.2.2.2.1
 have bC1 := H'.ba _ H'.hi.2.2.2.1
 have bD1 := H'.bb _ H'.hi.1
 have AP := Hd (fun w1 (k : Kp v0 w1) => qapart_any (.slice aa A.length ca) (.slice ab B.length cb) (.slice ac C.length cc) (.slice ad D.length cd) w1 (hb.kp k) (hc.kp k) H H' nB nC)
 have F2 := Hd (fun w1 (k : Kp v0 w1) => qover_any (.slice aa A.length ca) (.slice ab B.length cb) (.slice ac C.length cc) (.slice ad D.length cd) w1 (ha.kp k) (hb.kp k) (hc.kp k) (hd.kp k) H H' nA nB nC nD)
 have F3 := Hd (fun w1 (k : Kp v0 w1) => qstarts_any (.slice aa A.length ca) (.slice ab B.length cb) (.slice ac C.length cc) (.slice ad D.length cd) w1 (ha.kp k) (hb.kp k) (hc.kp k) (hd.kp k) H H' nA nB nC nD)
 have F4 := Hd (fun w1 (k : Kp v0 w1) => qdur_any (.slice aa A.length ca) (.slice ab B.length cb) (.slice ac C.length cc) (.slice ad D.length cd) w1 (ha.kp k) (hb.kp k) (hc.kp k) (hd.kp k) H H' nA nB nC nD)
 have F5 := Hd (fun w1 (k : Kp v0 w1) => qfin_any (.slice aa A.length ca) (.slice ab B.length cb) (.slice ac C.length cc) (.slice ad D.length cd) w1 (ha.kp k) (hb.kp k) (hc.kp k) (hd.kp k) H H' nA nB nC nD)
 have F6 := Hd (fun w1 (k : Kp v0 w1) => qeq_any (.slice aa A.length ca) (.slice ab B.length cb) (.slice ac C.length cc) (.slice ad D.length cd) w1 (ha.kp k) (hb.kp k) (hc.kp k) (hd.kp k) H H' nA nB nC nD)
 have Q2 := Hd (fun (w1 : World) => (show Calls Tryz.prog 66 #[.int .i64 2, .bool (ovB A B C D)] w1 fun e w' => e = .returned (.int .i64 (btQ 2 (ovB A B C D) : Nat)) ∧ w1 = w' from qbit_any 2 (by decide) _ w1))
 have Q3 := Hd (fun (w1 : World) => (show Calls Tryz.prog 66 #[.int .i64 3, .bool (stB A B C D)] w1 fun e w' => e = .returned (.int .i64 (btQ 3 (stB A B C D) : Nat)) ∧ w1 = w' from qbit_any 3 (by decide) _ w1))
 have Q4 := Hd (fun (w1 : World) => (show Calls Tryz.prog 66 #[.int .i64 4, .bool (duB A B C D)] w1 fun e w' => e = .returned (.int .i64 (btQ 4 (duB A B C D) : Nat)) ∧ w1 = w' from qbit_any 4 (by decide) _ w1))
 have Q5 := Hd (fun (w1 : World) => (show Calls Tryz.prog 66 #[.int .i64 5, .bool (fiB A B C D)] w1 fun e w' => e = .returned (.int .i64 (btQ 5 (fiB A B C D) : Nat)) ∧ w1 = w' from qbit_any 5 (by decide) _ w1))
 have Q6 := Hd (fun (w1 : World) => (show Calls Tryz.prog 66 #[.int .i64 6, .bool (eqB A B C D)] w1 fun e w' => e = .returned (.int .i64 (btQ 6 (eqB A B C D) : Nat)) ∧ w1 = w' from qbit_any 6 (by decide) _ w1))
 have L0 := apM_lt B C
 unfold haM
 generalize apM B C = m0 at *
 have P0 := ak_or L0 (bt_lt (k := 2) (by decide) (ovB A B C D))
 have L1 := bt_orlt L0 (bt_lt (k := 2) (by decide) (ovB A B C D))
 generalize m0 ||| btQ 2 (ovB A B C D) = m1 at *
 generalize btQ 2 (ovB A B C D) = b2 at *
 have P1 := ak_or L1 (bt_lt (k := 3) (by decide) (stB A B C D))
 have L2 := bt_orlt L1 (bt_lt (k := 3) (by decide) (stB A B C D))
 generalize m1 ||| btQ 3 (stB A B C D) = m2 at *
 generalize btQ 3 (stB A B C D) = b3 at *
 have P2 := ak_or L2 (bt_lt (k := 4) (by decide) (duB A B C D))
 have L3 := bt_orlt L2 (bt_lt (k := 4) (by decide) (duB A B C D))
 generalize m2 ||| btQ 4 (duB A B C D) = m3 at *
 generalize btQ 4 (duB A B C D) = b4 at *
 have P3 := ak_or L3 (bt_lt (k := 5) (by decide) (fiB A B C D))
 have L4 := bt_orlt L3 (bt_lt (k := 5) (by decide) (fiB A B C D))
 generalize m3 ||| btQ 5 (fiB A B C D) = m4 at *
 generalize btQ 5 (fiB A B C D) = b5 at *
 have P4 := ak_or L4 (bt_lt (k := 6) (by decide) (eqB A B C D))
 have L5 := bt_orlt L4 (bt_lt (k := 6) (by decide) (eqB A B C D))
 generalize m4 ||| btQ 6 (eqB A B C D) = m5 at *
 generalize btQ 6 (eqB A B C D) = b6 at *
 generalize ovB A B C D = o2 at *
 generalize stB A B C D = o3 at *
 generalize duB A B C D = o4 at *
 generalize fiB A B C D = o5 at *
 generalize eqB A B C D = o6 at *
 clear L0 L1 L2 L3 L4 L5
 clear ha hb hc hd H H' bA0 bB0 bA1 bB1 bC0 bD0 bC1 bD1 nA nB nC nD hV gf gg ka G0 N0
 have kkv0 : Kp v0 v0 := Kp.refl _
 go_enter Tryz.func69, Tryz.ntmps69
 go_upto_region 1 with fail
 rw [← HV.out]
 clear HV
 refine wp_region_held_drew (S := fun w' => w'.cell? ⟨w.heap.size, 0, none⟩ = some (.bool d) ∧ w'.cell? ⟨w.heap.size, 1, none⟩ = some (.slice aa A.length ca) ∧ w'.cell? ⟨w.heap.size, 2, none⟩ = some (.slice ab B.length cb) ∧ w'.cell? ⟨w.heap.size + 1, 0, none⟩ = some (.bool d') ∧ w'.cell? ⟨w.heap.size + 1, 1, none⟩ = some (.slice ac C.length cc) ∧ w'.cell? ⟨w.heap.size + 1, 2, none⟩ = some (.slice ad D.length cd) ∧ Kp v0 w') (by kernel_rfl) ?_ (fun hHeld0 => ?_)
 ·(try dsimp only); exact KS.out _ (ky kkv0)
 refine tkv 0 qhA0 ?_
 (try simp only [Act.put, qhA0, xA, xB, xC])
 refine tkv 1 qhA1 ?_
 (try simp only [Act.put, qhA1, xA, xB, xC])
 refine tkv 3 qhA3 ?_
 (try simp only [Act.put, qhA3, xA, xB, xC])
 refine tkv 4 qhA4 ?_
 (try simp only [Act.put, qhA4, xA, xB, xC])
 refine tkv 8 qhA8 ?_
 (try simp only [Act.put, qhA8, xA, xB, xC])
 refine tkv 9 qhA9 ?_
 (try simp only [Act.put, qhA9, xA, xB, xC])
 refine tkv 13 qhA13 ?_
 (try simp only [Act.put, qhA13, xA, xB, xC])
 refine tkv 14 qhA14 ?_
 (try simp only [Act.put, qhA14, xA, xB, xC])
 refine tkv 18 qhA18 ?_
 (try simp only [Act.put, qhA18, xA, xB, xC])
 refine tkv 19 qhA19 ?_
 (try simp only [Act.put, qhA19, xA, xB, xC])
 refine tkv 23 qhA23 ?_
 (try simp only [Act.put, qhA23, xA, xB, xC])
 refine tkv 24 qhA24 ?_
 (try simp only [Act.put, qhA24, xA, xB, xC])
 refine tkE 2 qhA2 rfl (by kernel_rfl) (fun K hK => ?_)
 go_simp
 (refine (AP.out _ (ky kkv0)).mono ?_; rintro e wa ⟨rfl, kq1⟩; have kkwa : Kp v0 wa := Kp.trans (show Kp v0 _ from (ky kkv0)) kq1; clear kq1)
 (try go_wp2_with fail)
 refine hK.out _ _ ?_ (fun hHeld1 => ?_)
 ·(try dsimp only); exact KS.out _ (ky kkwa)
 clear hK K hHeld0
 (try simp only [Act.put, qhA2, xA, xB, xC])
 refine tkE 5 qhA5 rfl (by kernel_rfl) (fun K hK => ?_)
 go_simp
 (refine (F2.out _ (ky kkwa)).mono ?_; rintro e wb ⟨rfl, kq1⟩; have kkwb : Kp v0 wb := Kp.trans (show Kp v0 _ from (ky kkwa)) kq1; clear kq1)
 (try go_wp2_with fail)
 refine hK.out _ _ ?_ (fun hHeld2 => ?_)
 ·(try dsimp only); exact KS.out _ (ky kkwb)
 clear hK K hHeld1
 (try simp only [Act.put, qhA5, xA, xB, xC])
 refine tkE 6 qhA6 rfl (by kernel_rfl) (fun K hK => ?_)
 go_simp
 (refine (Q2.out _).mono ?_; rintro e w' ⟨rfl, rfl⟩)
 (try go_wp2_with fail)
 refine hK.out _ _ ?_ (fun hHeld3 => ?_)
 ·(try dsimp only); exact KS.out _ (ky kkwb)
 clear hK K hHeld2
 (try simp only [Act.put, qhA6, xA, xB, xC])
 refine tkv 7 qhA7 ?_
 (try simp only [Act.put, qhA7, xA, xB, xC])
 refine tkE 10 qhA10 rfl (by kernel_rfl) (fun K hK => ?_)
 go_simp
 (refine (F3.out _ (ky kkwb)).mono ?_; rintro e wc ⟨rfl, kq1⟩; have kkwc : Kp v0 wc := Kp.trans (show Kp v0 _ from (ky kkwb)) kq1; clear kq1)
 (try go_wp2_with fail)
 refine hK.out _ _ ?_ (fun hHeld4 => ?_)
 ·(try dsimp only); exact KS.out _ (ky kkwc)
 clear hK K hHeld3
 (try simp only [Act.put, qhA10, xA, xB, xC])
 refine tkE 11 qhA11 rfl (by kernel_rfl) (fun K hK => ?_)
 go_simp
 (refine (Q3.out _).mono ?_; rintro e w' ⟨rfl, rfl⟩)
 (try go_wp2_with fail)
 refine hK.out _ _ ?_ (fun hHeld5 => ?_)
 ·(try dsimp only); exact KS.out _ (ky kkwc)
 clear hK K hHeld4
 (try simp only [Act.put, qhA11, xA, xB, xC])
 refine tkv 12 qhA12 ?_
 (try simp only [Act.put, qhA12, xA, xB, xC])
 refine tkE 15 qhA15 rfl (by kernel_rfl) (fun K hK => ?_)
 go_simp
 (refine (F4.out _ (ky kkwc)).mono ?_; rintro e wd ⟨rfl, kq1⟩; have kkwd : Kp v0 wd := Kp.trans (show Kp v0 _ from (ky kkwc)) kq1; clear kq1)
 (try go_wp2_with fail)
 refine hK.out _ _ ?_ (fun hHeld6 => ?_)
 ·(try dsimp only); exact KS.out _ (ky kkwd)
 clear hK K hHeld5
 (try simp only [Act.put, qhA15, xA, xB, xC])
 refine tkE 16 qhA16 rfl (by kernel_rfl) (fun K hK => ?_)
 go_simp
 (refine (Q4.out _).mono ?_; rintro e w' ⟨rfl, rfl⟩)
 (try go_wp2_with fail)
 refine hK.out _ _ ?_ (fun hHeld7 => ?_)
 ·(try dsimp only); exact KS.out _ (ky kkwd)
 clear hK K hHeld6
 (try simp only [Act.put, qhA16, xA, xB, xC])
 refine tkv 17 qhA17 ?_
 (try simp only [Act.put, qhA17, xA, xB, xC])
 refine tkE 20 qhA20 rfl (by kernel_rfl) (fun K hK => ?_)
 go_simp
 (refine (F5.out _ (ky kkwd)).mono ?_; rintro e we ⟨rfl, kq1⟩; have kkwe : Kp v0 we := Kp.trans (show Kp v0 _ from (ky kkwd)) kq1; clear kq1)
 (try go_wp2_with fail)
 refine hK.out _ _ ?_ (fun hHeld8 => ?_)
 ·(try dsimp only); exact KS.out _ (ky kkwe)
 clear hK K hHeld7
 (try simp only [Act.put, qhA20, xA, xB, xC])
 refine tkE 21 qhA21 rfl (by kernel_rfl) (fun K hK => ?_)
 go_simp
 (refine (Q5.out _).mono ?_; rintro e w' ⟨rfl, rfl⟩)
 (try go_wp2_with fail)
 refine hK.out _ _ ?_ (fun hHeld9 => ?_)
 ·(try dsimp only); exact KS.out _ (ky kkwe)
 clear hK K hHeld8
 (try simp only [Act.put, qhA21, xA, xB, xC])
 refine tkv 22 qhA22 ?_
 (try simp only [Act.put, qhA22, xA, xB, xC])
 refine tkE 25 qhA25 rfl (by kernel_rfl) (fun K hK => ?_)
 go_simp
 (refine (F6.out _ (ky kkwe)).mono ?_; rintro e wf ⟨rfl, kq1⟩; have kkwf : Kp v0 wf := Kp.trans (show Kp v0 _ from (ky kkwe)) kq1; clear kq1)
 (try go_wp2_with fail)
 refine hK.out _ _ ?_ (fun hHeld10 => ?_)
 ·(try dsimp only); exact KS.out _ (ky kkwf)
 clear hK K hHeld9
 (try simp only [Act.put, qhA25, xA, xB, xC])
 refine tkE 26 qhA26 rfl (by kernel_rfl) (fun K hK => ?_)
 go_simp
 (refine (Q6.out _).mono ?_; rintro e w' ⟨rfl, rfl⟩)
 (try go_wp2_with fail)
 refine hK.out _ _ ?_ (fun hHeld11 => ?_)
 ·(try dsimp only); exact KS.out _ (ky kkwf)
 clear hK K hHeld10
 (try simp only [Act.put, qhA26, xA, xB, xC])
 refine tkv 27 qhA27 ?_
 (try simp only [Act.put, qhA27, xA, xB, xC])
 refine tkv 28 qhA28 ?_
 (try simp only [Act.put, qhA28, xA, xB, xC])
 refine wpAnyH_done (by kernel_rfl) ?_ _
 go_wp2
 go_ret
 exact ⟨rfl, KA.out.trans (ky kkwf)⟩
end Go.Proofs.YtcooaoponkkpeaaGreatDoor
