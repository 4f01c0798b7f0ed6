import Derived.Test.YtcooaoponkkpeaaGreatDoorJQa
import Derived.Test.YtcooaoponkkpeaaGreatDoorGSetA
namespace Go.Proofs.YtcooaoponkkpeaaGreatDoor
open Go.RowKit Go.Shelf
set_option linter.unusedVariables false
set_option linter.unusedSimpArgs false
abbrev qoA0 : Oper := ⟨some 10, .fieldAddr 57 (.tmp 3) 1, 0, "ref.go:62", #[], none⟩
abbrev qoA1 : Oper := ⟨some 11, .load 34 (.tmp 10), 34, "ref.go:62", #[⟨0, .data⟩], none⟩
abbrev qoA2 : Oper := ⟨some 12, .fieldAddr 57 (.tmp 2) 1, 0, "ref.go:62", #[], none⟩
abbrev qoA3 : Oper := ⟨some 13, .load 34 (.tmp 12), 34, "ref.go:62", #[⟨2, .data⟩], none⟩
abbrev qoA4 : Oper := ⟨some 14, .call ⟨.value (.func 122), #[.tmp 13], #[34]⟩, 3, "ref.go:62", #[⟨3, .data⟩], none⟩
abbrev qoA5 : Oper := ⟨some 15, .binOp .add 3 (.tmp 14) (.const (.int .i64 1)) 3, 3, "ref.go:62", #[⟨4, .data⟩], none⟩
abbrev qoA6 : Oper := ⟨some 16, .call ⟨.value (.func 125), #[.tmp 11, .tmp 15], #[34, 3]⟩, 113, "ref.go:62", #[⟨1, .data⟩, ⟨5, .data⟩, ⟨4, .chain⟩], none⟩
abbrev qoA7 : Oper := ⟨some 9, .move (.tmp 16), 113, "ref.go:62", #[⟨6, .data⟩], none⟩
abbrev qoA8 : Oper := ⟨some 17, .extract (.tmp 9) 0, 3, "ref.go:62", #[⟨7, .data⟩], none⟩
abbrev qoA9 : Oper := { dst := some 18, op := Go.Op.extract (Go.Operand.tmp 9) 1, type := 4, pos := "ref.go:62", after := #[{ on := 7, ground := Go.Ground.data }, { on := 10, ground := Go.Ground.gcOnly Go.Departure.lateStores }], guard := none }
abbrev qoA10 : Oper := { dst := some 5, op := Go.Op.assign (Go.Operand.tmp 17), type := 3, pos := "ref.go:62", after := #[{ on := 8, ground := Go.Ground.data }, { on := 6, ground := Go.Ground.chain }, { on := 0, ground := Go.Ground.phase }, { on := 1, ground := Go.Ground.phase }, { on := 2, ground := Go.Ground.phase }, { on := 3, ground := Go.Ground.phase }, { on := 4, ground := Go.Ground.phase }, { on := 5, ground := Go.Ground.phase }, { on := 6, ground := Go.Ground.phase }, { on := 7, ground := Go.Ground.phase }, { on := 8, ground := Go.Ground.phase }, { on := 9, ground := Go.Ground.textOnly Go.Departure.lateStores }], guard := none }
abbrev qoA11 : Oper := ⟨some 6, .assign (.tmp 18), 4, "ref.go:62", #[⟨9, .data⟩, ⟨10, .chain⟩, ⟨0, .phase⟩, ⟨1, .phase⟩, ⟨2, .phase⟩, ⟨3, .phase⟩, ⟨4, .phase⟩, ⟨5, .phase⟩, ⟨6, .phase⟩, ⟨7, .phase⟩, ⟨8, .phase⟩, ⟨9, .phase⟩, ⟨10, .phase⟩], none⟩
abbrev qoB0 : Oper := ⟨some 20, .fieldAddr 57 (.tmp 2) 2, 0, "ref.go:63", #[], none⟩
abbrev qoB1 : Oper := ⟨some 21, .load 34 (.tmp 20), 34, "ref.go:63", #[⟨0, .data⟩], none⟩
abbrev qoB2 : Oper := ⟨some 22, .fieldAddr 57 (.tmp 3) 2, 0, "ref.go:63", #[], none⟩
abbrev qoB3 : Oper := ⟨some 23, .load 34 (.tmp 22), 34, "ref.go:63", #[⟨2, .data⟩], none⟩
abbrev qoB4 : Oper := ⟨some 24, .call ⟨.value (.func 123), #[.tmp 23], #[34]⟩, 3, "ref.go:63", #[⟨3, .data⟩], none⟩
abbrev qoB5 : Oper := ⟨some 25, .binOp .sub 3 (.tmp 24) (.const (.int .i64 1)) 3, 3, "ref.go:63", #[⟨4, .data⟩], none⟩
abbrev qoB6 : Oper := ⟨some 26, .call ⟨.value (.func 184), #[.tmp 21, .tmp 25], #[34, 3]⟩, 113, "ref.go:63", #[⟨1, .data⟩, ⟨5, .data⟩, ⟨4, .chain⟩], none⟩
abbrev qoB7 : Oper := ⟨some 19, .move (.tmp 26), 113, "ref.go:63", #[⟨6, .data⟩], none⟩
abbrev qoB8 : Oper := ⟨some 27, .extract (.tmp 19) 0, 3, "ref.go:63", #[⟨7, .data⟩], none⟩
abbrev qoB9 : Oper := { dst := some 28, op := Go.Op.extract (Go.Operand.tmp 19) 1, type := 4, pos := "ref.go:63", after := #[{ on := 7, ground := Go.Ground.data }, { on := 10, ground := Go.Ground.gcOnly Go.Departure.lateStores }], guard := none }
abbrev qoB10 : Oper := { dst := some 7, op := Go.Op.assign (Go.Operand.tmp 27), type := 3, pos := "ref.go:63", after := #[{ on := 8, ground := Go.Ground.data }, { on := 6, ground := Go.Ground.chain }, { on := 0, ground := Go.Ground.phase }, { on := 1, ground := Go.Ground.phase }, { on := 2, ground := Go.Ground.phase }, { on := 3, ground := Go.Ground.phase }, { on := 4, ground := Go.Ground.phase }, { on := 5, ground := Go.Ground.phase }, { on := 6, ground := Go.Ground.phase }, { on := 7, ground := Go.Ground.phase }, { on := 8, ground := Go.Ground.phase }, { on := 9, ground := Go.Ground.textOnly Go.Departure.lateStores }], guard := none }
abbrev qoB11 : Oper := ⟨some 8, .assign (.tmp 28), 4, "ref.go:63", #[⟨9, .data⟩, ⟨10, .chain⟩, ⟨0, .phase⟩, ⟨1, .phase⟩, ⟨2, .phase⟩, ⟨3, .phase⟩, ⟨4, .phase⟩, ⟨5, .phase⟩, ⟨6, .phase⟩, ⟨7, .phase⟩, ⟨8, .phase⟩, ⟨9, .phase⟩, ⟨10, .phase⟩], none⟩
theorem qover_any {d d' : Bool} {A B C D : List R} (va vb vc vd : Value) (w : World) (ha : RunsAt w va A) (hb : RunsAt w vb B) (hc : RunsAt w vc C) (hd : RunsAt w vd D) (H : LsOkP d A B) (H' : LsOkP d' C D) (nA : A.length ≤ 1000) (nB : B.length ≤ 1000) (nC : C.length ≤ 1000) (nD : D.length ≤ 1000) :
  Calls Tryz.prog 126 #[.agg #[.bool d, va, vb], .agg #[.bool d', vc, vd]] w fun e w' => e = .returned (.bool (ovB A B C D)) ∧ Kp w w' := by
 have N0 := Hd (show (0 : Nat) = 0 from rfl)
 have G0 := Hd (show RunsAt w va A ∧ RunsAt w vb B ∧ RunsAt w vc C ∧ RunsAt w vd D from ⟨ha, hb, hc, hd⟩)
 obtain ⟨aa, ca, rfl⟩ := ha.slice
 obtain ⟨ab, cb, rfl⟩ := hb.slice
 obtain ⟨ac, cc, rfl⟩ := hc.slice
 obtain ⟨ad, cd, rfl⟩ := hd.slice
 obtain ⟨v0, hV⟩ : ∃ x, x = (w.alloc (.cells #[.bool d, .slice aa A.length ca, .slice ab B.length cb] 57)).alloc (.cells #[.bool d', .slice ac C.length cc, .slice ad D.length cd] 57) := ⟨_, rfl⟩
 have ka : Kp w v0 := by rw [hV]; exact (Kp.alloc _ _).trans (Kp.alloc _ _)
 have gf : v0.heap[w.heap.size]? = some (.cells #[.bool d, .slice aa A.length ca, .slice ab B.length cb] 57 (0, 0)) := by rw [hV]; exact heap_block (Kp.alloc _ _) (heap_at _ _ _ rfl)
 have gg : v0.heap[w.heap.size + 1]? = some (.cells #[.bool d', .slice ac C.length cc, .slice ad D.length cd] 57 (0, 0)) := by rw [hV]; exact heap_at _ _ _ (by simp)
 have KS := Hd (fun w' (kq : Kp v0 w') => show w'.cell? ⟨w.heap.size, 0, none⟩ = some (.bool d) ∧ w'.cell? ⟨w.heap.size, 1, none⟩ = some (.slice aa A.length ca) ∧ w'.cell? ⟨w.heap.size, 2, none⟩ = some (.slice ab B.length cb) ∧ w'.cell? ⟨w.heap.size + 1, 0, none⟩ = some (.bool d') ∧ w'.cell? ⟨w.heap.size + 1, 1, none⟩ = some (.slice ac C.length cc) ∧ w'.cell? ⟨w.heap.size + 1, 2, none⟩ = some (.slice ad D.length cd) ∧ Kp v0 w' from ⟨(row3 (heap_block kq gf)).1, (row3 (heap_block kq gf)).2.1, (row3 (heap_block kq gf)).2.2, (row3 (heap_block kq gg)).1, (row3 (heap_block kq gg)).2.1, (row3 (heap_block kq gg)).2.2, kq⟩)
 have HV := Hd hV
 have KA := Hd ka
 have ha := ha.kp ka
 have hb := hb.kp ka
 have hc := hc.kp ka
 have hd := hd.kp ka
 have bA0 := H.ba _ H.lo.1
 have bB0 := H.bb _ H.lo.2.2.2.1
 have bA1 := H.ba _ H.hi.2.2.2.1
 have bB1 := H.bb _ H.hi.1
 have bC0 := H'.ba _ H'.lo.1
 have bD0 := H'.bb _ H'.lo.2.2.2.1
 have bC1 := H'.ba _ H'.hi.2.2.2.1
 have bD1 := H'.bb _ H'.hi.1
 have LA := Hd (fun w1 (k : Kp v0 w1) => qlow_any _ A w1 (ha.kp k) H.na)
 have GD := Hd (fun w1 (k : Kp v0 w1) => qhigh_any _ D w1 (hd.kp k) H'.nb (by omega))
 have NC := Hd (fun w1 (k : Kp v0 w1) => rnext_of _ C (leastR A + 1) w1 (by have := asR_any _ C w1 (hc.kp k) (sane_i64 H'.sa) (by omega); rwa [nf_of_sane H'.sa] at this) (by omega))
 have PB := Hd (fun w1 (k : Kp v0 w1) => rprev_of _ B (greatR D - 1) w1 (by have := asR_any _ B w1 (hb.kp k) (sane_i64 H.sb) (by omega); rwa [nf_of_sane H.sb] at this) (by omega))
 have wl : IntKind.i64.wrap (leastR A + 1) = leastR A + 1 := by rw [IntKind.wrap_i64]; omega
 have wg : IntKind.i64.wrap (greatR D - 1) = greatR D - 1 := by rw [IntKind.wrap_i64]; omega
 unfold ovB
 generalize nxt C (leastR A + 1) = n at *
 generalize prv B (greatR D - 1) = p at *
 obtain ⟨n1, n2⟩ := n
 obtain ⟨p1, p2⟩ := p
 simp only at NC PB ⊢
 generalize leastR A = lo at *
 generalize greatR D = hi at *
 clear ha hb hc hd H H' bA0 bB0 bA1 bB1 bC0 bD0 bC1 bD1 nA nB nC nD hV gf gg ka G0 N0
 have kkv0 : Kp v0 v0 := Kp.refl _
 go_enter Tryz.func126, Tryz.ntmps126
 go_upto_region 1 with fail
 rw [← HV.out]
 clear HV
 refine wp_region_held_drew (S := fun w' => w'.cell? ⟨w.heap.size, 0, none⟩ = some (.bool d) ∧ w'.cell? ⟨w.heap.size, 1, none⟩ = some (.slice aa A.length ca) ∧ w'.cell? ⟨w.heap.size, 2, none⟩ = some (.slice ab B.length cb) ∧ w'.cell? ⟨w.heap.size + 1, 0, none⟩ = some (.bool d') ∧ w'.cell? ⟨w.heap.size + 1, 1, none⟩ = some (.slice ac C.length cc) ∧ w'.cell? ⟨w.heap.size + 1, 2, none⟩ = some (.slice ad D.length cd) ∧ Kp v0 w') (by kernel_rfl) ?_ (fun hHeld0 => ?_)
 ·(try dsimp only); exact KS.out _ (ky kkv0)
 refine tkv 0 qoA0 ?_
 (try simp only [Act.put, qoA0, xA, xB, xC])
 refine tkv 1 qoA1 ?_
 (try simp only [Act.put, qoA1, xA, xB, xC])
 refine tkv 2 qoA2 ?_
 (try simp only [Act.put, qoA2, xA, xB, xC])
 refine tkv 3 qoA3 ?_
 (try simp only [Act.put, qoA3, xA, xB, xC])
 refine tkE 4 qoA4 rfl (by kernel_rfl) (fun K hK => ?_)
 go_simp
 (refine (LA.out _ (ky kkv0)).mono ?_; rintro e w' ⟨rfl, rfl⟩)
 (try go_wp2_with fail)
 refine hK.out _ _ ?_ (fun hHeld1 => ?_)
 ·(try dsimp only); exact KS.out _ (ky kkv0)
 clear hK K hHeld0
 (try simp only [Act.put, qoA4, xA, xB, xC])
 refine tkv 5 qoA5 ?_
 (try simp only [Act.put, qoA5, xA, xB, xC])
 refine tkE 6 qoA6 rfl (by kernel_rfl) (fun K hK => ?_)
 go_simp
 (refine (NC.out _ (ky kkv0)).mono ?_; rintro e wa ⟨rfl, kq1⟩; have kkwa : Kp v0 wa := Kp.trans (show Kp v0 _ from (ky kkv0)) kq1; clear kq1)
 (try go_wp2_with fail)
 refine hK.out _ _ ?_ (fun hHeld2 => ?_)
 ·(try dsimp only); exact KS.out _ (ky kkwa)
 clear hK K hHeld1
 (try simp only [Act.put, qoA6, xA, xB, xC])
 refine tkv 7 qoA7 ?_
 (try simp only [Act.put, qoA7, xA, xB, xC])
 refine tkv 8 qoA8 ?_
 (try simp only [Act.put, qoA8, xA, xB, xC])
 refine tkv 9 qoA9 ?_
 (try simp only [Act.put, qoA9, xA, xB, xC])
 refine tkv 10 qoA10 ?_
 (try simp only [Act.put, qoA10, xA, xB, xC])
 refine tkv 11 qoA11 ?_
 (try simp only [Act.put, qoA11, xA, xB, xC])
 refine wpAnyH_done (by kernel_rfl) ?_ _
 go_wp2_with fail
 refine wp_region_held_drew (S := fun w' => w'.cell? ⟨w.heap.size, 0, none⟩ = some (.bool d) ∧ w'.cell? ⟨w.heap.size, 1, none⟩ = some (.slice aa A.length ca) ∧ w'.cell? ⟨w.heap.size, 2, none⟩ = some (.slice ab B.length cb) ∧ w'.cell? ⟨w.heap.size + 1, 0, none⟩ = some (.bool d') ∧ w'.cell? ⟨w.heap.size + 1, 1, none⟩ = some (.slice ac C.length cc) ∧ w'.cell? ⟨w.heap.size + 1, 2, none⟩ = some (.slice ad D.length cd) ∧ Kp v0 w') (by kernel_rfl) ?_ (fun hHeld0 => ?_)
 ·(try dsimp only); exact KS.out _ (ky kkwa)
 refine tkv 0 qoB0 ?_
 (try simp only [Act.put, qoB0, xA, xB, xC])
 refine tkv 1 qoB1 ?_
 (try simp only [Act.put, qoB1, xA, xB, xC])
 refine tkv 2 qoB2 ?_
 (try simp only [Act.put, qoB2, xA, xB, xC])
 refine tkv 3 qoB3 ?_
 (try simp only [Act.put, qoB3, xA, xB, xC])
 refine tkE 4 qoB4 rfl (by kernel_rfl) (fun K hK => ?_)
 go_simp
 (refine (GD.out _ (ky kkwa)).mono ?_; rintro e w' ⟨rfl, rfl⟩)
 (try go_wp2_with fail)
 refine hK.out _ _ ?_ (fun hHeld1 => ?_)
 ·(try dsimp only); exact KS.out _ (ky kkwa)
 clear hK K hHeld0
 (try simp only [Act.put, qoB4, xA, xB, xC])
 refine tkv 5 qoB5 ?_
 (try simp only [Act.put, qoB5, xA, xB, xC])
 refine tkE 6 qoB6 rfl (by kernel_rfl) (fun K hK => ?_)
 go_simp
 (refine (PB.out _ (ky kkwa)).mono ?_; rintro e wb ⟨rfl, kq1⟩; have kkwb : Kp v0 wb := Kp.trans (show Kp v0 _ from (ky kkwa)) kq1; clear kq1)
 (try go_wp2_with fail)
 refine hK.out _ _ ?_ (fun hHeld2 => ?_)
 ·(try dsimp only); exact KS.out _ (ky kkwb)
 clear hK K hHeld1
 (try simp only [Act.put, qoB6, xA, xB, xC])
 refine tkv 7 qoB7 ?_
 (try simp only [Act.put, qoB7, xA, xB, xC])
 refine tkv 8 qoB8 ?_
 (try simp only [Act.put, qoB8, xA, xB, xC])
 refine tkv 9 qoB9 ?_
 (try simp only [Act.put, qoB9, xA, xB, xC])
 refine tkv 10 qoB10 ?_
 (try simp only [Act.put, qoB10, xA, xB, xC])
 refine tkv 11 qoB11 ?_
 (try simp only [Act.put, qoB11, xA, xB, xC])
 refine wpAnyH_done (by kernel_rfl) ?_ _
 cases n2 with
 | false =>
  go_wp2
  go_ret
  exact ⟨rfl, KA.out.trans (ky kkwb)⟩
 | true =>
  cases p2 with
  | false =>
   go_wp2
   go_ret
   exact ⟨rfl, KA.out.trans (ky kkwb)⟩
  | true =>
   go_wp2
   go_ret
   exact ⟨rfl, KA.out.trans (ky kkwb)⟩
abbrev qsA0 : Oper := ⟨some 17, .fieldAddr 57 (.tmp 2) 2, 0, "ref.go:73", #[], none⟩
abbrev qsA1 : Oper := ⟨some 18, .load 34 (.tmp 17), 34, "ref.go:73", #[⟨0, .data⟩], none⟩
abbrev qsA2 : Oper := ⟨some 19, .move (.tmp 5), 34, "ref.go:73", #[], none⟩
abbrev qsA3 : Oper := ⟨some 20, .call ⟨.value (.func 122), #[.tmp 19], #[34]⟩, 3, "ref.go:73", #[⟨2, .data⟩], none⟩
abbrev qsA4 : Oper := ⟨some 21, .call ⟨.value (.func 125), #[.tmp 18, .tmp 20], #[34, 3]⟩, 113, "ref.go:73", #[⟨1, .data⟩, ⟨3, .data⟩, ⟨3, .chain⟩], none⟩
abbrev qsA5 : Oper := ⟨some 16, .move (.tmp 21), 113, "ref.go:73", #[⟨4, .data⟩], none⟩
abbrev qsA6 : Oper := ⟨some 22, .extract (.tmp 16) 0, 3, "ref.go:73", #[⟨5, .data⟩], none⟩
abbrev qsA7 : Oper := { dst := some 23, op := Go.Op.extract (Go.Operand.tmp 16) 1, type := 4, pos := "ref.go:73", after := #[{ on := 5, ground := Go.Ground.data }, { on := 8, ground := Go.Ground.gcOnly Go.Departure.lateStores }], guard := none }
abbrev qsA8 : Oper := { dst := some 6, op := Go.Op.assign (Go.Operand.tmp 22), type := 3, pos := "ref.go:73", after := #[{ on := 6, ground := Go.Ground.data }, { on := 4, ground := Go.Ground.chain }, { on := 0, ground := Go.Ground.phase }, { on := 1, ground := Go.Ground.phase }, { on := 2, ground := Go.Ground.phase }, { on := 3, ground := Go.Ground.phase }, { on := 4, ground := Go.Ground.phase }, { on := 5, ground := Go.Ground.phase }, { on := 6, ground := Go.Ground.phase }, { on := 7, ground := Go.Ground.textOnly Go.Departure.lateStores }], guard := none }
abbrev qsA9 : Oper := ⟨some 7, .assign (.tmp 23), 4, "ref.go:73", #[⟨7, .data⟩, ⟨8, .chain⟩, ⟨0, .phase⟩, ⟨1, .phase⟩, ⟨2, .phase⟩, ⟨3, .phase⟩, ⟨4, .phase⟩, ⟨5, .phase⟩, ⟨6, .phase⟩, ⟨7, .phase⟩, ⟨8, .phase⟩], none⟩
theorem qstarts_any {d d' : Bool} {A B C D : List R} (va vb vc vd : Value) (w : World) (ha : RunsAt w va A) (hb : RunsAt w vb B) (hc : RunsAt w vc C) (hd : RunsAt w vd D) (H : LsOkP d A B) (H' : LsOkP d' C D) (nA : A.length ≤ 1000) (nB : B.length ≤ 1000) (nC : C.length ≤ 1000) (nD : D.length ≤ 1000) :
  Calls Tryz.prog 127 #[.agg #[.bool d, va, vb], .agg #[.bool d', vc, vd]] w fun e w' => e = .returned (.bool (stB A B C D)) ∧ Kp w w' := by
 have N0 := Hd (show (0 : Nat) = 0 from rfl)
 have G0 := Hd (show RunsAt w va A ∧ RunsAt w vb B ∧ RunsAt w vc C ∧ RunsAt w vd D from ⟨ha, hb, hc, hd⟩)
 obtain ⟨aa, ca, rfl⟩ := ha.slice
 obtain ⟨ab, cb, rfl⟩ := hb.slice
 obtain ⟨ac, cc, rfl⟩ := hc.slice
 obtain ⟨ad, cd, rfl⟩ := hd.slice
 obtain ⟨v0, hV⟩ : ∃ x, x = (w.alloc (.cells #[.bool d, .slice aa A.length ca, .slice ab B.length cb] 57)).alloc (.cells #[.bool d', .slice ac C.length cc, .slice ad D.length cd] 57) := ⟨_, rfl⟩
 have ka : Kp w v0 := by rw [hV]; exact (Kp.alloc _ _).trans (Kp.alloc _ _)
 have gf : v0.heap[w.heap.size]? = some (.cells #[.bool d, .slice aa A.length ca, .slice ab B.length cb] 57 (0, 0)) := by rw [hV]; exact heap_block (Kp.alloc _ _) (heap_at _ _ _ rfl)
 have gg : v0.heap[w.heap.size + 1]? = some (.cells #[.bool d', .slice ac C.length cc, .slice ad D.length cd] 57 (0, 0)) := by rw [hV]; exact heap_at _ _ _ (by simp)
 have KS := Hd (fun w' (kq : Kp v0 w') => show w'.cell? ⟨w.heap.size, 0, none⟩ = some (.bool d) ∧ w'.cell? ⟨w.heap.size, 1, none⟩ = some (.slice aa A.length ca) ∧ w'.cell? ⟨w.heap.size, 2, none⟩ = some (.slice ab B.length cb) ∧ w'.cell? ⟨w.heap.size + 1, 0, none⟩ = some (.bool d') ∧ w'.cell? ⟨w.heap.size + 1, 1, none⟩ = some (.slice ac C.length cc) ∧ w'.cell? ⟨w.heap.size + 1, 2, none⟩ = some (.slice ad D.length cd) ∧ Kp v0 w' from ⟨(row3 (heap_block kq gf)).1, (row3 (heap_block kq gf)).2.1, (row3 (heap_block kq gf)).2.2, (row3 (heap_block kq gg)).1, (row3 (heap_block kq gg)).2.1, (row3 (heap_block kq gg)).2.2, kq⟩)
 have HV := Hd hV
 have KA := Hd ka
 have ha := ha.kp ka
 have hb := hb.kp ka
 have hc := hc.kp ka
 have hd := hd.kp ka
 have bA0 := H.ba _ H.lo.1
 have bB0 := H.bb _ H.lo.2.2.2.1
 have bA1 := H.ba _ H.hi.2.2.2.1
 have bB1 := H.bb _ H.hi.1
 have bC0 := H'.ba _ H'.lo.1
 have bD0 := H'.bb _ H'.lo.2.2.2.1
 have bC1 := H'.ba _ H'.hi.2.2.2.1
 have bD1 := H'.bb _ H'.hi.1
 have MS := Hd (fun w1 (k : Kp v0 w1) => rmeet_any _ _ A C w1 (ha.kp k) (hc.kp k) (sane_i64 H.sa) (sane_i64 H'.sa) (by omega) (by omega))
 have n1 := interR_len H.sa H'.sa
 have LE := Hd (fun v w1 (h : RunsAt w1 v (interR A C)) (h0 : 0 < (interR A C).length) => qlow_any v _ w1 h h0)
 have NX := Hd (fun w1 (k : Kp v0 w1) => rnext_of _ B (leastR (interR A C)) w1 (by have := asR_any _ B w1 (hb.kp k) (sane_i64 H.sb) (by omega); rwa [nf_of_sane H.sb] at this) (by omega))
 have GD := Hd (fun w1 (k : Kp v0 w1) => qhigh_any _ D w1 (hd.kp k) H'.nb (by omega))
 obtain ⟨r, hr⟩ : ∃ r, stB A B C D = r := ⟨_, rfl⟩
 rw [hr]
 unfold stB at hr
 generalize nxt B (leastR (interR A C)) = n at *
 obtain ⟨y1, y2⟩ := n
 simp only at NX hr
 generalize leastR (interR A C) = ed at *
 generalize interR A C = E at *
 generalize greatR D = hi at *
 have HR := Hd hr
 clear hr
 clear ha hb hc hd H H' bA0 bB0 bA1 bB1 bC0 bD0 bC1 bD1 nA nB nC nD hV gf gg ka G0 N0
 have kkv0 : Kp v0 v0 := Kp.refl _
 go_enter Tryz.func127, Tryz.ntmps127
 go_upto_region 1 with fail
 rw [← HV.out]
 clear HV
 obtain ⟨x0, x1, x2, x3, x4, x5, _⟩ := KS.out _ kkv0
 go_wp2_with fail
 refine (MS.out _ kkv0).mono ?_
 rintro e wa ⟨v1, rfl, o1, k1⟩
 have kkwa : Kp v0 wa := k1
 have O1 := Hd o1
 obtain ⟨a1, c1, rfl⟩ := o1.slice
 clear o1 k1 x0 x1 x2 x3 x4 x5
 by_cases hE : E.length = 0
 ·have e1 : ((E.length : Int) == 0) = true := by rw [hE]; rfl
  have e2 : decide (0 < E.length) = false := dF
  have rr : r = false := by rw [← HR.out, e2]; rfl
  go_wp2
  go_ret
  exact ⟨ret_bool rr.symm, KA.out.trans kkwa⟩
 have e1 : ((E.length : Int) == 0) = false := by rw [beq_eq_false_iff_ne]; omega
 have e3 : 0 < E.length := by omega
 have e2 := Hd (show decide (0 < E.length) = true from decide_eq_true e3)
 go_upto_region 4 with fail
 refine wp_region_held_drew (S := fun w' => w'.cell? ⟨w.heap.size, 0, none⟩ = some (.bool d) ∧ w'.cell? ⟨w.heap.size, 1, none⟩ = some (.slice aa A.length ca) ∧ w'.cell? ⟨w.heap.size, 2, none⟩ = some (.slice ab B.length cb) ∧ w'.cell? ⟨w.heap.size + 1, 0, none⟩ = some (.bool d') ∧ w'.cell? ⟨w.heap.size + 1, 1, none⟩ = some (.slice ac C.length cc) ∧ w'.cell? ⟨w.heap.size + 1, 2, none⟩ = some (.slice ad D.length cd) ∧ Kp v0 w') (by kernel_rfl) ?_ (fun hHeld0 => ?_)
 ·(try dsimp only); exact KS.out _ (ky kkwa)
 refine tkv 0 qsA0 ?_
 (try simp only [Act.put, qsA0, xA, xB, xC])
 refine tkv 1 qsA1 ?_
 (try simp only [Act.put, qsA1, xA, xB, xC])
 refine tkv 2 qsA2 ?_
 (try simp only [Act.put, qsA2, xA, xB, xC])
 refine tkE 3 qsA3 rfl (by kernel_rfl) (fun K hK => ?_)
 go_simp
 (refine (LE.out _ _ (O1.out.kp (ky (Kp.refl wa))) e3).mono ?_; rintro e w' ⟨rfl, rfl⟩)
 (try go_wp2_with fail)
 refine hK.out _ _ ?_ (fun hHeld1 => ?_)
 ·(try dsimp only); exact KS.out _ (ky kkwa)
 clear hK K hHeld0
 (try simp only [Act.put, qsA3, xA, xB, xC])
 refine tkE 4 qsA4 rfl (by kernel_rfl) (fun K hK => ?_)
 go_simp
 (refine (NX.out _ (ky kkwa)).mono ?_; rintro e wb ⟨rfl, kq1⟩; have kkwb : Kp v0 wb := Kp.trans (show Kp v0 _ from (ky kkwa)) kq1; clear kq1)
 (try go_wp2_with fail)
 refine hK.out _ _ ?_ (fun hHeld2 => ?_)
 ·(try dsimp only); exact KS.out _ (ky kkwb)
 clear hK K hHeld1
 (try simp only [Act.put, qsA4, xA, xB, xC])
 refine tkv 5 qsA5 ?_
 (try simp only [Act.put, qsA5, xA, xB, xC])
 refine tkv 6 qsA6 ?_
 (try simp only [Act.put, qsA6, xA, xB, xC])
 refine tkv 7 qsA7 ?_
 (try simp only [Act.put, qsA7, xA, xB, xC])
 refine tkv 8 qsA8 ?_
 (try simp only [Act.put, qsA8, xA, xB, xC])
 refine tkv 9 qsA9 ?_
 (try simp only [Act.put, qsA9, xA, xB, xC])
 refine wpAnyH_done (by kernel_rfl) ?_ _
 cases y2 with
 | false =>
  have rr : r = false := by rw [← HR.out]; cases decide (0 < E.length) <;> rfl
  go_wp2
  go_ret
  exact ⟨ret_bool rr.symm, KA.out.trans (ky kkwb)⟩
 | true =>
  have rr : r = decide (y1 < hi) := by rw [← HR.out, e2.out]; rfl
  go_wp2_with fail
  refine (GD.out _ (ky kkwb)).mono ?_
  rintro e w' ⟨rfl, rfl⟩
  go_wp2
  go_ret
  exact ⟨ret_bool rr.symm, KA.out.trans (ky kkwb)⟩
abbrev qfA0 : Oper := ⟨some 17, .fieldAddr 57 (.tmp 2) 1, 0, "ref.go:93", #[], none⟩
abbrev qfA1 : Oper := ⟨some 18, .load 34 (.tmp 17), 34, "ref.go:93", #[⟨0, .data⟩], none⟩
abbrev qfA2 : Oper := ⟨some 19, .move (.tmp 5), 34, "ref.go:93", #[], none⟩
abbrev qfA3 : Oper := ⟨some 20, .call ⟨.value (.func 123), #[.tmp 19], #[34]⟩, 3, "ref.go:93", #[⟨2, .data⟩], none⟩
abbrev qfA4 : Oper := ⟨some 21, .call ⟨.value (.func 184), #[.tmp 18, .tmp 20], #[34, 3]⟩, 113, "ref.go:93", #[⟨1, .data⟩, ⟨3, .data⟩, ⟨3, .chain⟩], none⟩
abbrev qfA5 : Oper := ⟨some 16, .move (.tmp 21), 113, "ref.go:93", #[⟨4, .data⟩], none⟩
abbrev qfA6 : Oper := ⟨some 22, .extract (.tmp 16) 0, 3, "ref.go:93", #[⟨5, .data⟩], none⟩
abbrev qfA7 : Oper := { dst := some 23, op := Go.Op.extract (Go.Operand.tmp 16) 1, type := 4, pos := "ref.go:93", after := #[{ on := 5, ground := Go.Ground.data }, { on := 8, ground := Go.Ground.gcOnly Go.Departure.lateStores }], guard := none }
abbrev qfA8 : Oper := { dst := some 6, op := Go.Op.assign (Go.Operand.tmp 22), type := 3, pos := "ref.go:93", after := #[{ on := 6, ground := Go.Ground.data }, { on := 4, ground := Go.Ground.chain }, { on := 0, ground := Go.Ground.phase }, { on := 1, ground := Go.Ground.phase }, { on := 2, ground := Go.Ground.phase }, { on := 3, ground := Go.Ground.phase }, { on := 4, ground := Go.Ground.phase }, { on := 5, ground := Go.Ground.phase }, { on := 6, ground := Go.Ground.phase }, { on := 7, ground := Go.Ground.textOnly Go.Departure.lateStores }], guard := none }
abbrev qfA9 : Oper := ⟨some 7, .assign (.tmp 23), 4, "ref.go:93", #[⟨7, .data⟩, ⟨8, .chain⟩, ⟨0, .phase⟩, ⟨1, .phase⟩, ⟨2, .phase⟩, ⟨3, .phase⟩, ⟨4, .phase⟩, ⟨5, .phase⟩, ⟨6, .phase⟩, ⟨7, .phase⟩, ⟨8, .phase⟩], none⟩
theorem qfin_any {d d' : Bool} {A B C D : List R} (va vb vc vd : Value) (w : World) (ha : RunsAt w va A) (hb : RunsAt w vb B) (hc : RunsAt w vc C) (hd : RunsAt w vd D) (H : LsOkP d A B) (H' : LsOkP d' C D) (nA : A.length ≤ 1000) (nB : B.length ≤ 1000) (nC : C.length ≤ 1000) (nD : D.length ≤ 1000) :
  Calls Tryz.prog 129 #[.agg #[.bool d, va, vb], .agg #[.bool d', vc, vd]] w fun e w' => e = .returned (.bool (fiB A B C D)) ∧ Kp w w' := by
 have N0 := Hd (show (0 : Nat) = 0 from rfl)
 have G0 := Hd (show RunsAt w va A ∧ RunsAt w vb B ∧ RunsAt w vc C ∧ RunsAt w vd D from ⟨ha, hb, hc, hd⟩)
 obtain ⟨aa, ca, rfl⟩ := ha.slice
 obtain ⟨ab, cb, rfl⟩ := hb.slice
 obtain ⟨ac, cc, rfl⟩ := hc.slice
 obtain ⟨ad, cd, rfl⟩ := hd.slice
 obtain ⟨v0, hV⟩ : ∃ x, x = (w.alloc (.cells #[.bool d, .slice aa A.length ca, .slice ab B.length cb] 57)).alloc (.cells #[.bool d', .slice ac C.length cc, .slice ad D.length cd] 57) := ⟨_, rfl⟩
 have ka : Kp w v0 := by rw [hV]; exact (Kp.alloc _ _).trans (Kp.alloc _ _)
 have gf : v0.heap[w.heap.size]? = some (.cells #[.bool d, .slice aa A.length ca, .slice ab B.length cb] 57 (0, 0)) := by rw [hV]; exact heap_block (Kp.alloc _ _) (heap_at _ _ _ rfl)
 have gg : v0.heap[w.heap.size + 1]? = some (.cells #[.bool d', .slice ac C.length cc, .slice ad D.length cd] 57 (0, 0)) := by rw [hV]; exact heap_at _ _ _ (by simp)
 have KS := Hd (fun w' (kq : Kp v0 w') => show w'.cell? ⟨w.heap.size, 0, none⟩ = some (.bool d) ∧ w'.cell? ⟨w.heap.size, 1, none⟩ = some (.slice aa A.length ca) ∧ w'.cell? ⟨w.heap.size, 2, none⟩ = some (.slice ab B.length cb) ∧ w'.cell? ⟨w.heap.size + 1, 0, none⟩ = some (.bool d') ∧ w'.cell? ⟨w.heap.size + 1, 1, none⟩ = some (.slice ac C.length cc) ∧ w'.cell? ⟨w.heap.size + 1, 2, none⟩ = some (.slice ad D.length cd) ∧ Kp v0 w' from ⟨(row3 (heap_block kq gf)).1, (row3 (heap_block kq gf)).2.1, (row3 (heap_block kq gf)).2.2, (row3 (heap_block kq gg)).1, (row3 (heap_block kq gg)).2.1, (row3 (heap_block kq gg)).2.2, kq⟩)
 have HV := Hd hV
 have KA := Hd ka
 have ha := ha.kp ka
 have hb := hb.kp ka
 have hc := hc.kp ka
 have hd := hd.kp ka
 have bA0 := H.ba _ H.lo.1
 have bB0 := H.bb _ H.lo.2.2.2.1
 have bA1 := H.ba _ H.hi.2.2.2.1
 have bB1 := H.bb _ H.hi.1
 have bC0 := H'.ba _ H'.lo.1
 have bD0 := H'.bb _ H'.lo.2.2.2.1
 have bC1 := H'.ba _ H'.hi.2.2.2.1
 have bD1 := H'.bb _ H'.hi.1
 have MS := Hd (fun w1 (k : Kp v0 w1) => rmeet_any _ _ B D w1 (hb.kp k) (hd.kp k) (sane_i64 H.sb) (sane_i64 H'.sb) (by omega) (by omega))
 have n1 := interR_len H.sb H'.sb
 have LE := Hd (fun v w1 (h : RunsAt w1 v (interR B D)) (h0 : 0 < (interR B D).length) => qhigh_any v _ w1 h h0 (by omega))
 have NX := Hd (fun w1 (k : Kp v0 w1) => rprev_of _ A (greatR (interR B D)) w1 (by have := asR_any _ A w1 (ha.kp k) (sane_i64 H.sa) (by omega); rwa [nf_of_sane H.sa] at this) (by omega))
 have GD := Hd (fun w1 (k : Kp v0 w1) => qlow_any _ C w1 (hc.kp k) H'.na)
 obtain ⟨r, hr⟩ : ∃ r, fiB A B C D = r := ⟨_, rfl⟩
 rw [hr]
 unfold fiB at hr
 generalize prv A (greatR (interR B D)) = n at *
 obtain ⟨y1, y2⟩ := n
 simp only at NX hr
 generalize greatR (interR B D) = ed at *
 generalize interR B D = E at *
 generalize leastR C = hi at *
 have HR := Hd hr
 clear hr
 clear ha hb hc hd H H' bA0 bB0 bA1 bB1 bC0 bD0 bC1 bD1 nA nB nC nD hV gf gg ka G0 N0
 have kkv0 : Kp v0 v0 := Kp.refl _
 go_enter Tryz.func129, Tryz.ntmps129
 go_upto_region 1 with fail
 rw [← HV.out]
 clear HV
 obtain ⟨x0, x1, x2, x3, x4, x5, _⟩ := KS.out _ kkv0
 go_wp2_with fail
 refine (MS.out _ kkv0).mono ?_
 rintro e wa ⟨v1, rfl, o1, k1⟩
 have kkwa : Kp v0 wa := k1
 have O1 := Hd o1
 obtain ⟨a1, c1, rfl⟩ := o1.slice
 clear o1 k1 x0 x1 x2 x3 x4 x5
 by_cases hE : E.length = 0
 ·have e1 : ((E.length : Int) == 0) = true := by rw [hE]; rfl
  have e2 : decide (0 < E.length) = false := dF
  have rr : r = false := by rw [← HR.out, e2]; rfl
  go_wp2
  go_ret
  exact ⟨ret_bool rr.symm, KA.out.trans kkwa⟩
 have e1 : ((E.length : Int) == 0) = false := by rw [beq_eq_false_iff_ne]; omega
 have e3 : 0 < E.length := by omega
 have e2 := Hd (show decide (0 < E.length) = true from decide_eq_true e3)
 go_upto_region 4 with fail
 refine wp_region_held_drew (S := fun w' => w'.cell? ⟨w.heap.size, 0, none⟩ = some (.bool d) ∧ w'.cell? ⟨w.heap.size, 1, none⟩ = some (.slice aa A.length ca) ∧ w'.cell? ⟨w.heap.size, 2, none⟩ = some (.slice ab B.length cb) ∧ w'.cell? ⟨w.heap.size + 1, 0, none⟩ = some (.bool d') ∧ w'.cell? ⟨w.heap.size + 1, 1, none⟩ = some (.slice ac C.length cc) ∧ w'.cell? ⟨w.heap.size + 1, 2, none⟩ = some (.slice ad D.length cd) ∧ Kp v0 w') (by kernel_rfl) ?_ (fun hHeld0 => ?_)
 ·(try dsimp only); exact KS.out _ (ky kkwa)
 refine tkv 0 qfA0 ?_
 (try simp only [Act.put, qfA0, xA, xB, xC])
 refine tkv 1 qfA1 ?_
 (try simp only [Act.put, qfA1, xA, xB, xC])
 refine tkv 2 qfA2 ?_
 (try simp only [Act.put, qfA2, xA, xB, xC])
 refine tkE 3 qfA3 rfl (by kernel_rfl) (fun K hK => ?_)
 go_simp
 (refine (LE.out _ _ (O1.out.kp (ky (Kp.refl wa))) e3).mono ?_; rintro e w' ⟨rfl, rfl⟩)
 (try go_wp2_with fail)
 refine hK.out _ _ ?_ (fun hHeld1 => ?_)
 ·(try dsimp only); exact KS.out _ (ky kkwa)
 clear hK K hHeld0
 (try simp only [Act.put, qfA3, xA, xB, xC])
 refine tkE 4 qfA4 rfl (by kernel_rfl) (fun K hK => ?_)
 go_simp
 (refine (NX.out _ (ky kkwa)).mono ?_; rintro e wb ⟨rfl, kq1⟩; have kkwb : Kp v0 wb := Kp.trans (show Kp v0 _ from (ky kkwa)) kq1; clear kq1)
 (try go_wp2_with fail)
 refine hK.out _ _ ?_ (fun hHeld2 => ?_)
 ·(try dsimp only); exact KS.out _ (ky kkwb)
 clear hK K hHeld1
 (try simp only [Act.put, qfA4, xA, xB, xC])
 refine tkv 5 qfA5 ?_
 (try simp only [Act.put, qfA5, xA, xB, xC])
 refine tkv 6 qfA6 ?_
 (try simp only [Act.put, qfA6, xA, xB, xC])
 refine tkv 7 qfA7 ?_
 (try simp only [Act.put, qfA7, xA, xB, xC])
 refine tkv 8 qfA8 ?_
 (try simp only [Act.put, qfA8, xA, xB, xC])
 refine tkv 9 qfA9 ?_
 (try simp only [Act.put, qfA9, xA, xB, xC])
 refine wpAnyH_done (by kernel_rfl) ?_ _
 cases y2 with
 | false =>
  have rr : r = false := by rw [← HR.out]; cases decide (0 < E.length) <;> rfl
  go_wp2
  go_ret
  exact ⟨ret_bool rr.symm, KA.out.trans (ky kkwb)⟩
 | true =>
  have rr : r = decide (y1 > hi) := by rw [← HR.out, e2.out]; rfl
  go_wp2_with fail
  refine (GD.out _ (ky kkwb)).mono ?_
  rintro e w' ⟨rfl, rfl⟩
  go_wp2
  go_ret
  exact ⟨ret_bool rr.symm, KA.out.trans (ky kkwb)⟩
end Go.Proofs.YtcooaoponkkpeaaGreatDoor
