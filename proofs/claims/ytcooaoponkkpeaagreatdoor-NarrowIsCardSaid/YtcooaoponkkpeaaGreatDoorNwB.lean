import Derived.Test.YtcooaoponkkpeaaGreatDoorJG
import Derived.Test.YtcooaoponkkpeaaGreatDoorJP
import Derived.Test.YtcooaoponkkpeaaGreatDoorGLeafA
import Derived.LoopTactic
set_option maxHeartbeats 16000000
set_option maxRecDepth 100000
namespace Go.Proofs.YtcooaoponkkpeaaGreatDoor
open Go.RowKit
set_option linter.unusedVariables false
set_option linter.unusedSimpArgs false
abbrev nwaA0 : Oper := ⟨some 8, .fieldAddr 44 (.tmp 2) 1, 0, "narrow.go:120", #[], none⟩
abbrev nwaA1 : Oper := ⟨some 9, .load 3 (.tmp 8), 3, "narrow.go:120", #[⟨0, .data⟩], none⟩
abbrev nwaA2 : Oper := ⟨some 10, .fieldAddr 44 (.tmp 2) 2, 0, "narrow.go:120", #[], none⟩
abbrev nwaA3 : Oper := ⟨some 11, .load 34 (.tmp 10), 34, "narrow.go:120", #[⟨2, .data⟩], none⟩
abbrev nwaA4 : Oper := ⟨some 12, .fieldAddr 44 (.tmp 2) 1, 0, "narrow.go:120", #[], none⟩
abbrev nwaA5 : Oper := ⟨some 13, .load 3 (.tmp 12), 3, "narrow.go:120", #[⟨4, .data⟩], none⟩
abbrev nwaA6 : Oper := ⟨some 14, .move (.tmp 1), 3, "narrow.go:120", #[], none⟩
abbrev nwaA7 : Oper := ⟨some 15, .move (.tmp 1), 3, "narrow.go:120", #[], none⟩
abbrev nwaA8 : Oper := ⟨some 16, .call ⟨.value (.func 91), #[.tmp 13, .tmp 14, .tmp 15], #[3, 3, 3]⟩, 34, "narrow.go:120", #[⟨5, .data⟩, ⟨6, .data⟩, ⟨7, .data⟩], none⟩
abbrev nwaA9 : Oper := ⟨some 17, .call ⟨.value (.func 78), #[.tmp 11, .tmp 16], #[34, 34]⟩, 34, "narrow.go:120", #[⟨3, .data⟩, ⟨8, .data⟩, ⟨8, .chain⟩], none⟩
abbrev nwaA10 : Oper := ⟨some 18, .call ⟨.value (.func 90), #[.tmp 9, .tmp 17], #[3, 34]⟩, 34, "narrow.go:120", #[⟨1, .data⟩, ⟨9, .data⟩, ⟨9, .chain⟩], none⟩
abbrev nwaA11 : Oper := ⟨some 4, .assign (.tmp 18), 34, "narrow.go:120", #[⟨10, .data⟩, ⟨10, .chain⟩, ⟨0, .phase⟩, ⟨1, .phase⟩, ⟨2, .phase⟩, ⟨3, .phase⟩, ⟨4, .phase⟩, ⟨5, .phase⟩, ⟨6, .phase⟩, ⟨7, .phase⟩, ⟨8, .phase⟩, ⟨9, .phase⟩, ⟨10, .phase⟩], none⟩
abbrev nwaB0 : Oper := ⟨some 19, .fieldAddr 44 (.tmp 2) 2, 0, "narrow.go:122", #[], none⟩
abbrev nwaB1 : Oper := ⟨some 20, .load 34 (.tmp 19), 34, "narrow.go:122", #[⟨0, .data⟩], none⟩
abbrev nwaB2 : Oper := ⟨some 21, .call ⟨.value (.func 71), #[.tmp 20], #[34]⟩, 3, "narrow.go:122", #[⟨1, .data⟩], none⟩
abbrev nwaB3 : Oper := ⟨some 22, .fieldAddr 44 (.tmp 2) 3, 0, "narrow.go:122", #[], none⟩
abbrev nwaB4 : Oper := ⟨some 23, .load 34 (.tmp 22), 34, "narrow.go:122", #[⟨3, .data⟩], none⟩
abbrev nwaB5 : Oper := ⟨some 24, .call ⟨.value (.func 72), #[.tmp 23], #[34]⟩, 3, "narrow.go:122", #[⟨4, .data⟩, ⟨2, .chain⟩], none⟩
abbrev nwaB6 : Oper := ⟨some 25, .build 42 #[(0, .tmp 21), (1, .tmp 24)], 42, "narrow.go:122", #[⟨2, .data⟩, ⟨5, .data⟩], none⟩
abbrev nwaB7 : Oper := ⟨some 26, .buildSlice 34 1 #[(0, .tmp 25)], 34, "narrow.go:122", #[⟨6, .data⟩], none⟩
abbrev nwaB8 : Oper := ⟨some 4, .assign (.tmp 26), 34, "narrow.go:122", #[⟨7, .data⟩, ⟨5, .chain⟩, ⟨0, .phase⟩, ⟨1, .phase⟩, ⟨2, .phase⟩, ⟨3, .phase⟩, ⟨4, .phase⟩, ⟨5, .phase⟩, ⟨6, .phase⟩, ⟨7, .phase⟩], none⟩
theorem leafTidy_any (f : LF) (va vb : Value) (w : World) (h : LeafOk w f va vb) (T : Tabs w) :
  Calls Tryz.prog 45 #[leafV f va vb] w fun e w' => ∃ va' vb', e = .returned (leafV (lfOf (famR f)) va' vb') ∧ LeafOk w' (lfOf (famR f)) va' vb' ∧ Kp w w' :=
 (leafTidyO_any f va vb w h T).mono (by rintro e w' ⟨a, b, rfl, c, d, _⟩; exact ⟨a, b, rfl, c, d⟩)
theorem nwAroundU (u : Int) (a b : List R) (va vb : Value) (d : Int) (w : World) (h : LeafOk w ⟨false, u, a, b⟩ va vb) (T : Tabs w) :
  Calls Tryz.prog 44 #[leafV ⟨false, u, a, b⟩ va vb, .int .i64 d] w fun e w' => ∃ v, e = .returned v ∧ RunsAt w' v (coverR u (interR a (touR u d d))) ∧ Kp w w' := by
 obtain ⟨aa, ca, rfl⟩ := h.a.slice
 obtain ⟨ab, cb, rfl⟩ := h.b.slice
 unfold leafV
 simp only
 have n1 : (touR u d d).length ≤ 1 := by unfold touR; split <;> simp
 have n0 : a.length ≤ 1000 := h.na
 have n2 := interR_bd (a := a) (b := touR u d d) (p := 1000) (q := 1) n0 n1
 have TO := Hd (fun w1 (k : Kp w w1) => touch_any u d d w1 (T.kp k))
 have ME := Hd (fun v w1 (k : Kp w w1) (hv : RunsAt w1 v (touR u d d)) => meet_any (.slice aa a.length ca) v a _ w1 (h.a.kp k) hv h.ia (sane_i64 (touR_sane _ _ _)) (by omega) (by omega))
 have CO := Hd (fun v w1 (k : Kp w w1) (hv : RunsAt w1 v (interR a (touR u d d))) => cover_any u v _ w1 hv (sane_i64 (interR_sane _ _)) (by omega) (T.kp k))
 generalize coverR u (interR a (touR u d d)) = C at *
 generalize interR a (touR u d d) = M at *
 generalize touR u d d = t at *
 clear h T n1 n2 n0
 obtain ⟨v0, hV⟩ : ∃ x, x = w.alloc (.cells #[.bool false, .int .i64 u, .slice aa a.length ca, .slice ab b.length cb] 44) := ⟨_, rfl⟩
 have ka : Kp w v0 := by rw [hV]; exact Kp.alloc _ _
 have gq0 : v0.heap[w.heap.size]? = some (.cells #[.bool false, .int .i64 u, .slice aa a.length ca, .slice ab b.length cb] 44 (0, 0)) := by rw [hV]; exact heap_at _ _ _ (by first | rfl | simp)
 have KS := Hd (fun w' (kq : Kp v0 w') => show w'.cell? ⟨w.heap.size, 0, none⟩ = some (.bool false) ∧ w'.cell? ⟨w.heap.size, 1, none⟩ = some (.int .i64 u) ∧ w'.cell? ⟨w.heap.size, 2, none⟩ = some (.slice aa a.length ca) ∧ w'.cell? ⟨w.heap.size, 3, none⟩ = some (.slice ab b.length cb) ∧ Kp v0 w' from ⟨(row4 (heap_block kq gq0)).1, (row4 (heap_block kq gq0)).2.1, (row4 (heap_block kq gq0)).2.2.1, (row4 (heap_block kq gq0)).2.2.2, kq⟩)
 have GQ0 := Hd gq0
 have HV := Hd hV
 have KA := Hd ka
 clear hV ka gq0
 have kkv0 : Kp v0 v0 := Kp.refl _
 go_enter Tryz.func44, Tryz.ntmps44
 go_upto_region 2 with fail
 rw [← HV.out]
 clear HV
 refine wp_region_held_drew (S := fun w' => w'.cell? ⟨w.heap.size, 0, none⟩ = some (.bool false) ∧ w'.cell? ⟨w.heap.size, 1, none⟩ = some (.int .i64 u) ∧ w'.cell? ⟨w.heap.size, 2, none⟩ = some (.slice aa a.length ca) ∧ w'.cell? ⟨w.heap.size, 3, none⟩ = some (.slice ab b.length cb) ∧ Kp v0 w') (by kernel_rfl) ?_ (fun hHeld0 => ?_)
 ·(try dsimp only); exact KS.out _ (ky kkv0)
 refine tkv 0 nwaA0 ?_
 (try simp only [Act.put, nwaA0, xA, xB, xC])
 refine tkv 1 nwaA1 ?_
 (try simp only [Act.put, nwaA1, xA, xB, xC])
 refine tkv 2 nwaA2 ?_
 (try simp only [Act.put, nwaA2, xA, xB, xC])
 refine tkv 3 nwaA3 ?_
 (try simp only [Act.put, nwaA3, xA, xB, xC])
 refine tkv 4 nwaA4 ?_
 (try simp only [Act.put, nwaA4, xA, xB, xC])
 refine tkv 5 nwaA5 ?_
 (try simp only [Act.put, nwaA5, xA, xB, xC])
 refine tkv 6 nwaA6 ?_
 (try simp only [Act.put, nwaA6, xA, xB, xC])
 refine tkv 7 nwaA7 ?_
 (try simp only [Act.put, nwaA7, xA, xB, xC])
 refine tkE 8 nwaA8 rfl (by kernel_rfl) (fun K hK => ?_)
 go_simp
 (refine (TO.out _ (KA.out.trans (ky kkv0))).mono ?_; rintro e wa ⟨v1, rfl, o1, kq1⟩; have kkwa : Kp v0 wa := Kp.trans (show Kp v0 _ from (ky kkv0)) kq1; obtain ⟨a1, l1, rfl⟩ := own_slice o1; have O1 := Hd (runsAt_own o1); clear o1; clear kq1)
 (try go_wp2_with fail)
 refine hK.out _ _ ?_ (fun hHeld1 => ?_)
 ·(try dsimp only); exact KS.out _ (ky kkwa)
 clear hK K hHeld0
 (try simp only [Act.put, nwaA8, xA, xB, xC])
 refine tkE 9 nwaA9 rfl (by kernel_rfl) (fun K hK => ?_)
 go_simp
 (refine (ME.out _ _ (KA.out.trans (ky kkwa)) (O1.out.kp (ky (Kp.refl wa)))).mono ?_; rintro e wb ⟨v2, rfl, o2, kq1⟩; have kkwb : Kp v0 wb := Kp.trans (show Kp v0 _ from (ky kkwa)) kq1; obtain ⟨a2, l2, rfl⟩ := own_slice o2; have O2 := Hd (runsAt_own o2); clear o2; clear kq1)
 (try go_wp2_with fail)
 refine hK.out _ _ ?_ (fun hHeld2 => ?_)
 ·(try dsimp only); exact KS.out _ (ky kkwb)
 clear hK K hHeld1
 (try simp only [Act.put, nwaA9, xA, xB, xC])
 refine tkE 10 nwaA10 rfl (by kernel_rfl) (fun K hK => ?_)
 go_simp
 (refine (CO.out _ _ (KA.out.trans (ky kkwb)) (O2.out.kp (ky (Kp.refl wb)))).mono ?_; rintro e wc ⟨v3, rfl, o3, kq1⟩; have kkwc : Kp v0 wc := Kp.trans (show Kp v0 _ from (ky kkwb)) kq1; have O3 := Hd (runsAt_own o3); clear o3; clear kq1)
 (try go_wp2_with fail)
 refine hK.out _ _ ?_ (fun hHeld3 => ?_)
 ·(try dsimp only); exact KS.out _ (ky kkwc)
 clear hK K hHeld2
 (try simp only [Act.put, nwaA10, xA, xB, xC])
 refine tkv 11 nwaA11 ?_
 (try simp only [Act.put, nwaA11, xA, xB, xC])
 refine wpAnyH_done (by kernel_rfl) ?_ _
 go_wp2
 go_ret
 exact ⟨_, rfl, O3.out.kp (ky (Kp.refl wc)), KA.out.trans (ky kkwc)⟩
theorem nwAroundS (u : Int) (a b : List R) (va vb : Value) (d : Int) (w : World) (h : LeafOk w ⟨true, u, a, b⟩ va vb) (sa : sane a) (sb : sane b) (na : 0 < a.length) (nb : 0 < b.length) :
  Calls Tryz.prog 44 #[leafV ⟨true, u, a, b⟩ va vb, .int .i64 d] w fun e w' => ∃ v, e = .returned v ∧ RunsAt w' v [(leastR a, greatR b)] ∧ Kp w w' := by
 obtain ⟨aa, ca, rfl⟩ := h.a.slice
 obtain ⟨ab, cb, rfl⟩ := h.b.slice
 unfold leafV
 simp only
 have n1 : a.length ≤ 1000 := h.na
 have n2 : b.length ≤ 1000 := h.nb
 have LE := Hd (fun w1 (k : Kp w w1) => nwLeast_any (.slice aa a.length ca) a w1 (h.a.kp k) sa na (by omega))
 have GR := Hd (fun w1 (k : Kp w w1) => nwGreat_any (.slice ab b.length cb) b w1 (h.b.kp k) sb nb (by omega))
 generalize leastR a = x at *
 generalize greatR b = y at *
 clear h sa sb na nb n1 n2
 obtain ⟨v0, hV⟩ : ∃ x, x = w.alloc (.cells #[.bool true, .int .i64 u, .slice aa a.length ca, .slice ab b.length cb] 44) := ⟨_, rfl⟩
 have ka : Kp w v0 := by rw [hV]; exact Kp.alloc _ _
 have gq0 : v0.heap[w.heap.size]? = some (.cells #[.bool true, .int .i64 u, .slice aa a.length ca, .slice ab b.length cb] 44 (0, 0)) := by rw [hV]; exact heap_at _ _ _ (by first | rfl | simp)
 have KS := Hd (fun w' (kq : Kp v0 w') => show w'.cell? ⟨w.heap.size, 0, none⟩ = some (.bool true) ∧ w'.cell? ⟨w.heap.size, 1, none⟩ = some (.int .i64 u) ∧ w'.cell? ⟨w.heap.size, 2, none⟩ = some (.slice aa a.length ca) ∧ w'.cell? ⟨w.heap.size, 3, none⟩ = some (.slice ab b.length cb) ∧ Kp v0 w' from ⟨(row4 (heap_block kq gq0)).1, (row4 (heap_block kq gq0)).2.1, (row4 (heap_block kq gq0)).2.2.1, (row4 (heap_block kq gq0)).2.2.2, kq⟩)
 have GQ0 := Hd gq0
 have HV := Hd hV
 have KA := Hd ka
 clear hV ka gq0
 have kkv0 : Kp v0 v0 := Kp.refl _
 go_enter Tryz.func44, Tryz.ntmps44
 go_upto_region 3 with fail
 rw [← HV.out]
 clear HV
 refine wp_region_held_drew (S := fun w' => w'.cell? ⟨w.heap.size, 0, none⟩ = some (.bool true) ∧ w'.cell? ⟨w.heap.size, 1, none⟩ = some (.int .i64 u) ∧ w'.cell? ⟨w.heap.size, 2, none⟩ = some (.slice aa a.length ca) ∧ w'.cell? ⟨w.heap.size, 3, none⟩ = some (.slice ab b.length cb) ∧ Kp v0 w') (by kernel_rfl) ?_ (fun hHeld0 => ?_)
 ·(try dsimp only); exact KS.out _ (ky kkv0)
 refine tkv 0 nwaB0 ?_
 (try simp only [Act.put, nwaB0, xA, xB, xC])
 refine tkv 1 nwaB1 ?_
 (try simp only [Act.put, nwaB1, xA, xB, xC])
 refine tkv 3 nwaB3 ?_
 (try simp only [Act.put, nwaB3, xA, xB, xC])
 refine tkv 4 nwaB4 ?_
 (try simp only [Act.put, nwaB4, xA, xB, xC])
 refine tkE 2 nwaB2 rfl (by kernel_rfl) (fun K hK => ?_)
 go_simp
 (refine (LE.out _ (KA.out.trans (ky kkv0))).mono ?_; rintro e wa ⟨rfl, kq1⟩; have kkwa : Kp v0 wa := Kp.trans (show Kp v0 _ from (ky kkv0)) kq1; clear kq1)
 (try go_wp2_with fail)
 refine hK.out _ _ ?_ (fun hHeld1 => ?_)
 ·(try dsimp only); exact KS.out _ (ky kkwa)
 clear hK K hHeld0
 (try simp only [Act.put, nwaB2, xA, xB, xC])
 refine tkE 5 nwaB5 rfl (by kernel_rfl) (fun K hK => ?_)
 go_simp
 (refine (GR.out _ (KA.out.trans (ky kkwa))).mono ?_; rintro e wb ⟨rfl, kq1⟩; have kkwb : Kp v0 wb := Kp.trans (show Kp v0 _ from (ky kkwa)) kq1; clear kq1)
 (try go_wp2_with fail)
 refine hK.out _ _ ?_ (fun hHeld2 => ?_)
 ·(try dsimp only); exact KS.out _ (ky kkwb)
 clear hK K hHeld1
 (try simp only [Act.put, nwaB5, xA, xB, xC])
 refine tkv 6 nwaB6 ?_
 (try simp only [Act.put, nwaB6, xA, xB, xC])
 refine tkE 7 nwaB7 rfl (by kernel_rfl) (fun K hK => ?_)
 go_simp
 skip
 (try go_wp2_with fail)
 refine hK.out _ _ ?_ (fun hHeld3 => ?_)
 ·(try dsimp only); exact KS.out _ (ky kkwb)
 clear hK K hHeld2
 (try simp only [Act.put, nwaB7, xA, xB, xC])
 refine tkv 8 nwaB8 ?_
 (try simp only [Act.put, nwaB8, xA, xB, xC])
 refine wpAnyH_done (by kernel_rfl) ?_ _
 go_wp2
 go_ret
 exact ⟨_, rfl, one_at _ _ _ _, KA.out.trans (ky kkwb)⟩
theorem nwAround_any (f : LF) (va vb : Value) (d : Int) (w : World) (h : LeafOk w f va vb) (ok : ∃ F, FOK F ∧ f = lfOf F) (T : Tabs w) :
  Calls Tryz.prog 44 #[leafV f va vb, .int .i64 d] w fun e w' => ∃ v, e = .returned v ∧ RunsAt w' v (arR f d) ∧ Kp w w' := by
 obtain ⟨F, ok, rfl⟩ := ok
 by_cases h0 : emptyF F = true
 ·rw [lfOf_none h0] at h ⊢
  exact nwAroundU 0 [] [] va vb d w h T
 ·cases F with
  | units k s =>
   rw [lfOf_u1 (by rw [emptyF_u] at h0; simpa using h0)] at h ⊢
   exact nwAroundU k s [] va vb d w h T
  | span s e =>
   have h1 : ¬ s.length = 0 := by rw [emptyF_s] at h0; simpa using h0
   rw [lfOf_s1 h1] at h ⊢
   exact nwAroundS 0 s e va vb d w h (setB_sane ok.1) (setB_sane ok.2.1) (by omega) (span_lg ok (by omega)).1
abbrev nwiA0 : Oper := ⟨some 20, .load 44 (.tmp 6), 44, "narrow.go:20", #[], none⟩
abbrev nwiA1 : Oper := ⟨some 21, .call ⟨.value (.func 45), #[.tmp 20], #[44]⟩, 44, "narrow.go:20", #[⟨0, .data⟩], none⟩
abbrev nwiA2 : Oper := ⟨some 22, .fieldAddr 31 (.tmp 3) 0, 0, "narrow.go:20", #[], none⟩
abbrev nwiA3 : Oper := ⟨some 23, .load 3 (.tmp 22), 3, "narrow.go:20", #[⟨2, .data⟩], none⟩
abbrev nwiA4 : Oper := ⟨some 24, .call ⟨.value (.func 44), #[.tmp 21, .tmp 23], #[44, 3]⟩, 34, "narrow.go:20", #[⟨1, .data⟩, ⟨3, .data⟩, ⟨1, .chain⟩], none⟩
abbrev nwiA5 : Oper := ⟨some 25, .call ⟨.builtin .len, #[.tmp 24], #[34]⟩, 3, "narrow.go:20", #[⟨4, .data⟩], none⟩
abbrev nwiA6 : Oper := ⟨some 26, .move (.const (.int .i64 0)), 3, "narrow.go:20", #[], none⟩
theorem inB_gt {m : List LF} {S E : Int} (h : ¬ S ≤ E) : inB m S E = false := by unfold inB; rw [decide_eq_false h]; rfl
theorem inB_yes {m : List LF} {S E : Int} (h : S ≤ E) {k : Nat} (hk : k < m.length) (g : insB (lat m k) S E = true) : inB m S E = true := by
 unfold inB
 rw [decide_eq_true h, Bool.true_and, List.any_eq_true]
 exact ⟨_, lat_mem hk, g⟩
theorem inB_no {m : List LF} {S E : Int} (g : ∀ j, j < m.length → insB (lat m j) S E = false) : inB m S E = false := by
 unfold inB
 rw [show (m.any fun f => insB f S E) = false from List.any_eq_false.2 fun f hf => by
  obtain ⟨j, hj, e⟩ := List.mem_iff_getElem.1 hf
  have := g j hj
  unfold lat at this
  rw [List.getD_eq_getElem?_getD, List.getElem?_eq_getElem hj] at this
  simp only [Option.getD_some, e] at this
  simp [this], Bool.and_false]
def askR (S E : Int) (r : R) : Bool := decide (r.1 ≤ S) && decide (E ≤ r.2)
theorem anyR_no {L : List R} {S E : Int} (g : ∀ j, j < L.length → askR S E (at_ L j) = false) : (L.any fun r => decide (r.1 ≤ S) && decide (E ≤ r.2)) = false :=
 List.any_eq_false.2 fun r hr => by
  obtain ⟨j, hj, e⟩ := List.mem_iff_getElem.1 hr
  have := g j hj
  unfold at_ at this
  rw [List.getD_eq_getElem?_getD, List.getElem?_eq_getElem hj] at this
  simp only [Option.getD_some, e] at this
  unfold askR at this
  simp [this]
theorem anyR_yes {L : List R} {S E : Int} {j : Nat} (hj : j < L.length) (g : askR S E (at_ L j) = true) : (L.any fun r => decide (r.1 ≤ S) && decide (E ≤ r.2)) = true :=
 List.any_eq_true.2 ⟨_, at_mem hj, g⟩
theorem nwInside_any (v : Value) (m : List LF) (S E : Int) (w : World) (hv : LeavesAt w v m) (hl : LsOk m) (T : Tabs w) (b1 : -9223372036854775808 ≤ S) (b2 : S ≤ 9223372036854775807) (b3 : -9223372036854775808 ≤ E) (b4 : E ≤ 9223372036854775807) :
  Calls Tryz.prog 18 #[v, .agg #[.int .i64 S, .int .i64 E]] w fun e w' => e = .returned (.bool (inB m S E)) ∧ Kp w w' := by
 have hm := hv.len
 unfold maxLen at hm
 obtain ⟨ad, cp, rfl⟩ := hv.slice
 have HV := Hd hv
 have HL := Hd hl
 have TT := Hd T
 have NO := Hd (fun h => inB_no (m := m) (S := S) (E := E) h)
 clear hv hl T
 by_cases hST : S ≤ E
 rotate_left
 ·have e0 := inB_gt (m := m) hST
  have q0 : decide (S > E) = true := dT
  have q1 : decide (E < S) = true := dT
  rw [e0]
  clear NO hST
  obtain ⟨W0, hVp⟩ : ∃ x, x = w.alloc (.cells #[.int .i64 S, .int .i64 E] 31) := ⟨_, rfl⟩
  have kap : Kp w W0 := by rw [hVp]; exact Kp.alloc _ _
  have gqp0 : W0.heap[w.heap.size]? = some (.cells #[.int .i64 S, .int .i64 E] 31 (0, 0)) := by rw [hVp]; exact heap_at _ _ _ (by first | rfl | simp)
  have KSp := Hd (fun w' (kq : Kp W0 w') => show w'.cell? ⟨w.heap.size, 0, none⟩ = some (.int .i64 S) ∧ w'.cell? ⟨w.heap.size, 1, none⟩ = some (.int .i64 E) ∧ Kp W0 w' from ⟨(row2 (heap_block kq gqp0)).1, (row2 (heap_block kq gqp0)).2, kq⟩)
  have GQp0 := Hd gqp0
  have HVp := Hd hVp
  have K0 := Hd kap
  clear hVp kap gqp0
  have kkW0 : Kp W0 W0 := Kp.refl _
  go_enter Tryz.func18, Tryz.ntmps18
  go_wp2
  go_ret
  exact ⟨rfl, by rw [← HVp.out]; exact K0.out⟩
 have q0 : decide (S > E) = false := dF
 have q1 : decide (E < S) = false := dF
 have YES := Hd (fun k (h : k < m.length) g => inB_yes hST h g)
 generalize inB m S E = r at *
 clear hST
 obtain ⟨W0, hVp⟩ : ∃ x, x = w.alloc (.cells #[.int .i64 S, .int .i64 E] 31) := ⟨_, rfl⟩
 have kap : Kp w W0 := by rw [hVp]; exact Kp.alloc _ _
 have gqp0 : W0.heap[w.heap.size]? = some (.cells #[.int .i64 S, .int .i64 E] 31 (0, 0)) := by rw [hVp]; exact heap_at _ _ _ (by first | rfl | simp)
 have KSp := Hd (fun w' (kq : Kp W0 w') => show w'.cell? ⟨w.heap.size, 0, none⟩ = some (.int .i64 S) ∧ w'.cell? ⟨w.heap.size, 1, none⟩ = some (.int .i64 E) ∧ Kp W0 w' from ⟨(row2 (heap_block kq gqp0)).1, (row2 (heap_block kq gqp0)).2, kq⟩)
 have GQp0 := Hd gqp0
 have HVp := Hd hVp
 have K0 := Hd kap
 clear hVp kap gqp0
 have kkW0 : Kp W0 W0 := Kp.refl _
 go_enter Tryz.func18, Tryz.ntmps18
 go_wp2_with fail
 rw [← HVp.out]
 go_loopw [16] (fun i wr => ∃ k : Nat, k ≤ m.length ∧ i = .int .i64 k ∧ Hid (∀ j, j < k → insB (lat m j) S E = false) ∧ Hid (Kp W0 wr)) (fun i _ => m.length - (intOf i).toNat)
 case atStart => exact ⟨0, Nat.zero_le _, rfl, Hd (fun i h => by omega), Hd (Kp.refl _)⟩
 case round =>
  obtain ⟨k, hk, rfl, FA, J⟩ := hrel
  by_cases hlt : k < m.length
  ·have q2 : decide ((k : Int) < (m.length : Int)) = true := dT
   have q3 : decide (k < m.length) = true := decide_eq_true hlt
   rcases HV.out.kp (K0.out.trans J.out) with ⟨_, _, _, e⟩ | ⟨b0, off, cap, ev, hc, hmx, hx⟩
   ·rw [e] at hlt; simp at hlt
   cases ev
   obtain ⟨va, vb, d0, d1, d2, d3, ra, rb⟩ := hx k hlt
   have LOK := HL.out _ (lat_mem hlt)
   obtain ⟨f, hf⟩ : ∃ f, lat m k = f := ⟨_, rfl⟩
   rw [hf] at d0 d1 ra rb
   (try rw [hf] at LOK)
   obtain ⟨sp, u, a, b⟩ := f
   simp only at d0 d1 ra rb
   (try simp only at LOK)
   obtain ⟨aa, ca, rfl⟩ := ra.slice
   obtain ⟨ab, cb, rfl⟩ := rb.slice
   have HF := Hd hf
   have z1 : (k : Int) < (m.length : Int) := by omega
   have z2 : (0 : Int) ≤ (k : Int) := by omega
   clear hx hc hmx hf
   have FO : LeafOk wr ⟨sp, u, a, b⟩ _ _ := ⟨ra, rb, LOK.1, LOK.2.1, LOK.2.2.1, LOK.2.2.2⟩
   have TD := Hd (fun w1 (kk : Kp wr w1) => leafTidy_any ⟨sp, u, a, b⟩ _ _ w1 (FO.kp kk) (TT.out.kp (K0.out.trans (J.out.trans kk))))
   have AR := Hd (fun va' vb' w1 (kk : Kp wr w1) (h : LeafOk w1 (lfOf (famR ⟨sp, u, a, b⟩)) va' vb') => nwAround_any _ va' vb' S w1 h ⟨_, famR_ok _, rfl⟩ (TT.out.kp (K0.out.trans (J.out.trans kk))))
   have IB := Hd (show insB (lat m k) S E = ((arR (lfOf (famR ⟨sp, u, a, b⟩)) S).any fun r => decide (r.1 ≤ S) && decide (E ≤ r.2)) by rw [HF.out]; rfl)
   rw [show leafV ⟨sp, u, a, b⟩ (.slice aa a.length ca) (.slice ab b.length cb) = .agg #[.bool sp, .int .i64 u, .slice aa a.length ca, .slice ab b.length cb] from rfl] at TD
   generalize arR (lfOf (famR ⟨sp, u, a, b⟩)) S = L at *
   generalize lfOf (famR ⟨sp, u, a, b⟩) = g at *
   have kkW0V : Kp W0 (wr.alloc (.cells #[.bool sp, .int .i64 u, .slice aa a.length ca, .slice ab b.length cb] 44)) := J.out.trans (Kp.alloc _ _)
   clear ra rb FO LOK HF
   obtain ⟨V, hVv⟩ : ∃ x, x = wr.alloc (.cells #[.bool sp, .int .i64 u, .slice aa a.length ca, .slice ab b.length cb] 44) := ⟨_, rfl⟩
   have kav : Kp wr V := by rw [hVv]; exact Kp.alloc _ _
   have gqv0 : V.heap[wr.heap.size]? = some (.cells #[.bool sp, .int .i64 u, .slice aa a.length ca, .slice ab b.length cb] 44 (0, 0)) := by rw [hVv]; exact heap_at _ _ _ (by first | rfl | simp)
   rw [← hVv] at kkW0V
   have KSv := Hd (fun w' (kq : Kp V w') => show w'.cell? ⟨wr.heap.size, 0, none⟩ = some (.bool sp) ∧ w'.cell? ⟨wr.heap.size, 1, none⟩ = some (.int .i64 u) ∧ w'.cell? ⟨wr.heap.size, 2, none⟩ = some (.slice aa a.length ca) ∧ w'.cell? ⟨wr.heap.size, 3, none⟩ = some (.slice ab b.length cb) ∧ w'.cell? ⟨w.heap.size, 0, none⟩ = some (.int .i64 S) ∧ w'.cell? ⟨w.heap.size, 1, none⟩ = some (.int .i64 E) ∧ Kp V w' from ⟨(row4 (heap_block kq gqv0)).1, (row4 (heap_block kq gqv0)).2.1, (row4 (heap_block kq gqv0)).2.2.1, (row4 (heap_block kq gqv0)).2.2.2, cell_up kq (KSp.out V kkW0V).1, cell_up kq (KSp.out V kkW0V).2.1, kq⟩)
   have GQv0 := Hd gqv0
   have HVv := Hd hVv
   have KV := Hd kav
   clear hVv kav gqv0
   have kkV : Kp V V := Kp.refl _
   go_upto_region 6 with fail
   rw [← HVv.out]
   clear HVv d0 d1 d2 d3
   refine wp_region_held_drew (S := fun w' => w'.cell? ⟨wr.heap.size, 0, none⟩ = some (.bool sp) ∧ w'.cell? ⟨wr.heap.size, 1, none⟩ = some (.int .i64 u) ∧ w'.cell? ⟨wr.heap.size, 2, none⟩ = some (.slice aa a.length ca) ∧ w'.cell? ⟨wr.heap.size, 3, none⟩ = some (.slice ab b.length cb) ∧ w'.cell? ⟨w.heap.size, 0, none⟩ = some (.int .i64 S) ∧ w'.cell? ⟨w.heap.size, 1, none⟩ = some (.int .i64 E) ∧ Kp V w') (by kernel_rfl) ?_ (fun hHeld0 => ?_)
   ·(try dsimp only); exact KSv.out _ (ky kkV)
   refine tkv 0 nwiA0 ?_
   (try simp only [Act.put, nwiA0, xA, xB, xC])
   refine tkv 2 nwiA2 ?_
   (try simp only [Act.put, nwiA2, xA, xB, xC])
   refine tkv 3 nwiA3 ?_
   (try simp only [Act.put, nwiA3, xA, xB, xC])
   refine tkv 6 nwiA6 ?_
   (try simp only [Act.put, nwiA6, xA, xB, xC])
   refine tkE 1 nwiA1 rfl (by kernel_rfl) (fun K hK => ?_)
   go_simp
   (refine (TD.out _ (KV.out.trans (ky kkV))).mono ?_; rintro e wa ⟨va', vb', rfl, ok', kq1⟩; have kkwa : Kp V wa := Kp.trans (show Kp V _ from (ky kkV)) kq1; have OK' := Hd ok'; clear ok'; clear kq1)
   (try go_wp2_with fail)
   refine hK.out _ _ ?_ (fun hHeld1 => ?_)
   ·(try dsimp only); exact KSv.out _ (ky kkwa)
   clear hK K hHeld0
   (try simp only [Act.put, nwiA1, xA, xB, xC])
   refine tkE 4 nwiA4 rfl (by kernel_rfl) (fun K hK => ?_)
   go_simp
   (refine (AR.out _ _ _ (KV.out.trans (ky kkwa)) (OK'.out.kp (ky (Kp.refl wa)))).mono ?_; rintro e wb ⟨v1, rfl, o1, kq1⟩; have kkwb : Kp V wb := Kp.trans (show Kp V _ from (ky kkwa)) kq1; obtain ⟨a1, l1, rfl⟩ := o1.slice; have O1 := Hd o1; have nL := o1.len; clear o1; clear kq1)
   (try go_wp2_with fail)
   refine hK.out _ _ ?_ (fun hHeld2 => ?_)
   ·(try dsimp only); exact KSv.out _ (ky kkwb)
   clear hK K hHeld1
   (try simp only [Act.put, nwiA4, xA, xB, xC])
   refine tkv 5 nwiA5 ?_
   (try simp only [Act.put, nwiA5, xA, xB, xC])
   refine wpAnyH_done (by kernel_rfl) ?_ _
   unfold maxLen at nL
   have J2 := Hd (kkW0V.trans kkwb)
   have HP := Hd (fun w' (kq : Kp wb w') => (show w'.cell? ⟨w.heap.size, 0, none⟩ = some (.int .i64 S) ∧ w'.cell? ⟨w.heap.size, 1, none⟩ = some (.int .i64 E) from ⟨(KSp.out _ (J2.out.trans kq)).1, (KSp.out _ (J2.out.trans kq)).2.1⟩))
   obtain ⟨wi, hwi⟩ : ∃ x, x = wb := ⟨_, rfl⟩
   subst hwi
   go_wp2_with fail
   go_loopw [26] (fun i wr2 => ∃ j : Nat, j ≤ L.length ∧ i = .int .i64 j ∧ Hid (∀ i, i < j → askR S E (at_ L i) = false) ∧ Hid (Kp wi wr2)) (fun i _ => L.length - (intOf i).toNat)
   case atStart => exact ⟨0, Nat.zero_le _, rfl, Hd (fun i h => by omega), Hd (ky (Kp.refl wi))⟩
   case round =>
    obtain ⟨j, hj, rfl, FB, J3⟩ := hrel
    by_cases hlt2 : j < L.length
    ·have q4 : decide ((j : Int) < (L.length : Int)) = true := dT
     have q5 : decide (j < L.length) = true := decide_eq_true hlt2
     rcases (O1.out.kp J3.out) with ⟨_, _, _, e⟩ | ⟨b2, off2, cap2, ev, hc2, hm2, hx2⟩
     ·rw [e] at hlt2; simp at hlt2
     obtain ⟨r1, r2⟩ := hx2 j hlt2
     cases ev
     obtain ⟨lo, elo⟩ : ∃ x, (at_ L j).1 = x := ⟨_, rfl⟩
     obtain ⟨hi', ehi⟩ : ∃ x, (at_ L j).2 = x := ⟨_, rfl⟩
     rw [elo] at r1
     rw [ehi] at r2
     have z3 : (0 : Int) ≤ (j : Int) := by omega
     have z4 : (j : Int) < L.length := by omega
     have AK := Hd (show askR S E (at_ L j) = (decide (lo ≤ S) && decide (E ≤ hi')) by unfold askR; rw [elo, ehi])
     have AY := Hd (fun g => anyR_yes (S := S) (E := E) hlt2 g)
     have kkW2 : Kp wi (wr.alloc (.cells #[.int .i64 lo, .int .i64 hi'] 42)) := J3.out.trans (Kp.alloc _ _)
     clear hx2 hc2 hm2 elo ehi
     obtain ⟨V2, hVr⟩ : ∃ x, x = wr.alloc (.cells #[.int .i64 lo, .int .i64 hi'] 42) := ⟨_, rfl⟩
     have kar : Kp wr V2 := by rw [hVr]; exact Kp.alloc _ _
     have gqr0 : V2.heap[wr.heap.size]? = some (.cells #[.int .i64 lo, .int .i64 hi'] 42 (0, 0)) := by rw [hVr]; exact heap_at _ _ _ (by first | rfl | simp)
     rw [← hVr] at kkW2
     have KSr := Hd (fun w' (kq : Kp V2 w') => show w'.cell? ⟨wr.heap.size, 0, none⟩ = some (.int .i64 lo) ∧ w'.cell? ⟨wr.heap.size, 1, none⟩ = some (.int .i64 hi') ∧ w'.cell? ⟨w.heap.size, 0, none⟩ = some (.int .i64 S) ∧ w'.cell? ⟨w.heap.size, 1, none⟩ = some (.int .i64 E) ∧ Kp V2 w' from ⟨(row2 (heap_block kq gqr0)).1, (row2 (heap_block kq gqr0)).2, cell_up kq (HP.out V2 kkW2).1, cell_up kq (HP.out V2 kkW2).2, kq⟩)
     have GQr0 := Hd gqr0
     have HVr := Hd hVr
     have KR := Hd kar
     clear hVr kar gqr0
     have kkV2 : Kp V2 V2 := Kp.refl _
     obtain ⟨xr0, xr1, xr2, xr3, _⟩ := KSr.out _ kkV2
     go_upto_region 9 with fail
     rw [← HVr.out]
     clear HVr r1 r2
     rcases Bool.eq_false_or_eq_true (decide (lo ≤ S)) with u1 | u1
     ·rcases Bool.eq_false_or_eq_true (decide (E ≤ hi')) with u2 | u2
      ·have er : r = true := YES.out k hlt (by rw [IB.out]; exact AY.out (by rw [AK.out, u1, u2]; rfl))
       subst er
       go_wp2
       go_ret
       exact ⟨rfl, K0.out.trans (J2.out.trans (J3.out.trans (KR.out.trans (ky (Kp.refl V2)))))⟩
      ·have e2 := Hd (show askR S E (at_ L j) = false by rw [AK.out, u1, u2]; rfl)
       go_wp2
       go_roundw
       case rel => exact ⟨j + 1, by omega, by go_num, Hd (fun i hi => by rcases Nat.lt_succ_iff_lt_or_eq.1 hi with h | h; exact FB.out i h; rw [h]; exact e2.out), Hd (J3.out.trans (KR.out.trans (ky (Kp.refl V2))))⟩
       case measure => simp [intOf]; omega
     ·have e2 := Hd (show askR S E (at_ L j) = false by rw [AK.out, u1]; rfl)
      go_wp2
      go_roundw
      case rel => exact ⟨j + 1, by omega, by go_num, Hd (fun i hi => by rcases Nat.lt_succ_iff_lt_or_eq.1 hi with h | h; exact FB.out i h; rw [h]; exact e2.out), Hd (J3.out.trans (KR.out.trans (ky (Kp.refl V2))))⟩
      case measure => simp [intOf]; omega
    ·have q4 : decide ((j : Int) < (L.length : Int)) = false := dF
     have q5 : decide (j < L.length) = false := dF
     have ej : j = L.length := by omega
     have e3 := Hd (show insB (lat m k) S E = false by rw [IB.out]; exact anyR_no (fun i hi => FB.out i (by omega)))
     have Q2 := Hd q2
     clear q2 q3
     go_wp2
     go_roundw
     case rel => exact ⟨k + 1, by omega, by go_num, Hd (fun i hi => by rcases Nat.lt_succ_iff_lt_or_eq.1 hi with h | h; exact FA.out i h; rw [h]; exact e3.out), Hd (J2.out.trans (ky J3.out))⟩
     case measure => simp [intOf]; omega
  ·have q2 : decide ((k : Int) < (m.length : Int)) = false := dF
   have q3 : decide (k < m.length) = false := dF
   have er : r = false := NO.out (fun j hj => FA.out j (by omega))
   subst er
   go_wp2
   go_ret
   exact ⟨rfl, K0.out.trans J.out⟩
end Go.Proofs.YtcooaoponkkpeaaGreatDoor
