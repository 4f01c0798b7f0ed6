import Derived.Test.YtcooaoponkkpeaaGreatDoorJNb
set_option maxHeartbeats 16000000
set_option maxRecDepth 100000
namespace Go.Proofs.YtcooaoponkkpeaaGreatDoor
open Go.RowKit
set_option linter.unusedVariables false
set_option linter.unusedSimpArgs false
theorem cutO_sp (s e : List R) (r : R) (h : ¬ (lfOf (famR (cutLF s e r))).a.length = 0) : (lfOf (famR (cutLF s e r))).sp = true := by
 rcases Bool.eq_false_or_eq_true (leafB (cutLF s e r)) with hl | hl
 ·by_cases h0 : (cutLF s e r).a.length = 0 ∨ (cutLF s e r).b.length = 0
  ·rw [famR_none hl rfl h0, lfOf_s0 rfl] at h
   exact absurd rfl h
  ·rw [famR_span hl rfl h0] at h ⊢
   by_cases h1 : (interR (cutLF s e r).a [(0, greatR (cutLF s e r).b)]).length = 0
   ·rw [lfOf_s0 h1] at h
    exact absurd rfl h
   ·rw [lfOf_s1 h1]
 ·rw [famR_no hl, lfOf_u0 rfl] at h
  exact absurd rfl h
theorem rboxO_any (f : LF) (va vb : Value) (lo hi' : Int) (w : World) (h : LeafOk w f va vb) (ii : I64R [(lo, hi')]) :
  Calls Tryz.prog 139 #[leafV f va vb, .int .i64 lo, .int .i64 hi'] w fun e w' => ∃ v' m, e = .returned v' ∧ m.map Prod.fst = partF f.a f.b (lo, hi') ∧ OwnV w' w.heap.size m ∧ w'.ownsRow w.heap.size 44 4 v' m.length (cellsV m) ∧ Kp w w' := by
 obtain ⟨sp, u, a, b⟩ := f
 obtain ⟨aa, ca, rfl⟩ := h.a.slice
 obtain ⟨ab, cb, rfl⟩ := h.b.slice
 have PF := part_is a b (lo, hi')
 have SP := cutO_sp a b (lo, hi')
 have nA := interR_le a (lo, hi')
 have nB := interR_le b (lo, hi')
 have na := h.na
 have nb := h.nb
 simp only at na nb
 simp only [leafV] at *
 obtain ⟨V3, hVb⟩ : ∃ x, x = w.alloc (.cells #[.bool sp, .int .i64 u, .slice aa a.length ca, .slice ab b.length cb] 44) := ⟨_, rfl⟩
 have kab : Kp w V3 := by rw [hVb]; exact Kp.alloc _ _
 have gqb0 : V3.heap[w.heap.size]? = some (.cells #[.bool sp, .int .i64 u, .slice aa a.length ca, .slice ab b.length cb] 44 (0, 0)) := by rw [hVb]; exact heap_at _ _ _ (by first | rfl | simp)
 have KSb := Hd (fun w' (kq : Kp V3 w') => show w'.cell? ⟨w.heap.size, 0, none⟩ = some (.bool sp) ∧ w'.cell? ⟨w.heap.size, 1, none⟩ = some (.int .i64 u) ∧ w'.cell? ⟨w.heap.size, 2, none⟩ = some (.slice aa a.length ca) ∧ w'.cell? ⟨w.heap.size, 3, none⟩ = some (.slice ab b.length cb) ∧ Kp V3 w' from ⟨(row4 (heap_block kq gqb0)).1, (row4 (heap_block kq gqb0)).2.1, (row4 (heap_block kq gqb0)).2.2.1, (row4 (heap_block kq gqb0)).2.2.2, kq⟩)
 have GQb0 := Hd gqb0
 have HVb := Hd hVb
 have KB := Hd kab
 clear hVb kab gqb0
 have kkV3 : Kp V3 V3 := Kp.refl _
 have CA := Hd (fun w1 (kk : Kp V3 w1) => rclip_any _ a lo hi' w1 (h.a.kp (KB.out.trans kk)) h.ia (by omega) ii)
 have CB := Hd (fun w1 (kk : Kp V3 w1) => rclip_any _ b lo hi' w1 (h.b.kp (KB.out.trans kk)) h.ib (by omega) ii)
 have TY := fun v1 v2 w1 (h1 : RunsAt w1 v1 (interR a [(lo, hi')])) (h2 : RunsAt w1 v2 (interR b [(lo, hi')])) => (refTidyO_any (cutLF a b (lo, hi')) v1 v2 w1 ⟨h1, h2, sane_i64 (interR_sane _ _), sane_i64 (interR_sane _ _), Nat.le_trans nA na, Nat.le_trans nB nb⟩).mono (R' := fun e w' => ∃ va vb, e = .returned (leafV (lfOf (famR (cutLF a b (lo, hi')))) va vb) ∧ (LeafOk w' (lfOf (famR (cutLF a b (lo, hi')))) va vb ∧ ((lfOf (famR (cutLF a b (lo, hi')))).sp = true → OwnR w' w1.heap.size va (lfOf (famR (cutLF a b (lo, hi')))).a ∧ OwnR w' w1.heap.size vb (lfOf (famR (cutLF a b (lo, hi')))).b)) ∧ Kp w1 w') (by rintro e w' ⟨va, vb, rfl, a, b, c⟩; exact ⟨va, vb, rfl, ⟨a, c⟩, b⟩)
 have e3 : ∃ sp3 u3 a3 b3, lfOf (famR (cutLF a b (lo, hi'))) = ⟨sp3, u3, a3, b3⟩ := ⟨_, _, _, _, rfl⟩
 obtain ⟨sp3, u3, a3, b3, e3⟩ := e3
 rw [e3] at PF TY SP
 simp only [cutLF, leafV] at TY
 simp only at PF SP
 generalize partF a b (lo, hi') = PX at *
 generalize interR a [(lo, hi')] = A9 at *
 generalize interR b [(lo, hi')] = B9 at *
 have TY := Hd TY
 have PF := Hd PF
 have SPH := Hd SP
 clear SP
 clear e3 nA nB na nb h
 go_enter Tryz.func139, Tryz.ntmps139
 go_upto_region 1 with fail
 rw [← HVb.out]
 refine wp_region_held_drew (S := fun w' => w'.cell? ⟨w.heap.size, 0, none⟩ = some (.bool sp) ∧ w'.cell? ⟨w.heap.size, 1, none⟩ = some (.int .i64 u) ∧ w'.cell? ⟨w.heap.size, 2, none⟩ = some (.slice aa a.length ca) ∧ w'.cell? ⟨w.heap.size, 3, none⟩ = some (.slice ab b.length cb) ∧ Kp V3 w') (by kernel_rfl) ?_ (fun hHeld0 => ?_)
 ·(try dsimp only); exact KSb.out _ (ky kkV3)
 refine tkv 0 niD0 ?_
 (try simp only [Act.put, niD0, xA, xB, xC])
 refine tkv 1 niD1 ?_
 (try simp only [Act.put, niD1, xA, xB, xC])
 refine tkv 2 niD2 ?_
 (try simp only [Act.put, niD2, xA, xB, xC])
 refine tkv 3 niD3 ?_
 (try simp only [Act.put, niD3, xA, xB, xC])
 refine tkv 5 niD5 ?_
 (try simp only [Act.put, niD5, xA, xB, xC])
 refine tkv 6 niD6 ?_
 (try simp only [Act.put, niD6, xA, xB, xC])
 refine tkv 7 niD7 ?_
 (try simp only [Act.put, niD7, xA, xB, xC])
 refine tkv 8 niD8 ?_
 (try simp only [Act.put, niD8, xA, xB, xC])
 refine tkE2 4 12 niD4 niD12 rfl rfl (by kernel_rfl) (fun K hK => ?_) (fun K hK => ?_)
 ·go_simp
  (refine (CA.out _ (ky kkV3)).mono ?_; rintro e wd ⟨v1, rfl, o1, kq1⟩; have kkwd : Kp V3 wd := Kp.trans (show Kp V3 _ from (ky kkV3)) kq1; obtain ⟨aA, lA, rfl⟩ := o1.slice; have OA := Hd o1; clear o1; clear kq1)
  (try go_wp2_with fail)
  refine hK.out _ _ ?_ (fun hHeld1 => ?_)
  ·(try dsimp only); exact KSb.out _ (ky kkwd)
  clear hK K hHeld0
  (try simp only [Act.put, niD4, xA, xB, xC])
  refine tkE2 9 12 niD9 niD12 rfl rfl (by kernel_rfl) (fun K hK => ?_) (fun K hK => ?_)
  ·go_simp
   (refine (CB.out _ (ky kkwd)).mono ?_; rintro e we ⟨v2, rfl, o2, kq1⟩; have kkwe : Kp V3 we := Kp.trans (show Kp V3 _ from (ky kkwd)) kq1; obtain ⟨aB, lB, rfl⟩ := o2.slice; have OB := Hd o2; clear o2; have OA := Hd (OA.out.kp (Kp.trans (show Kp wd _ from (ky (Kp.refl wd))) kq1)); clear kq1)
   (try go_wp2_with fail)
   refine hK.out _ _ ?_ (fun hHeld2 => ?_)
   ·(try dsimp only); exact KSb.out _ (ky kkwe)
   clear hK K hHeld1
   (try simp only [Act.put, niD9, xA, xB, xC])
   refine tkv 10 niD10 ?_
   (try simp only [Act.put, niD10, xA, xB, xC])
   refine tkE2 11 12 niD11 niD12 rfl rfl (by kernel_rfl) (fun K hK => ?_) (fun K hK => ?_)
   ·go_simp
    (refine (TY.out _ _ _ (OA.out.kp (ky (Kp.refl we))) (OB.out.kp (ky (Kp.refl we)))).mono ?_; rintro e wf ⟨va3, vb3, rfl, ok3, kq1⟩; have kkwf : Kp V3 wf := Kp.trans (show Kp V3 _ from (ky kkwe)) kq1; obtain ⟨ok3, oo3⟩ := ok3; obtain ⟨aT, cT, rfl⟩ := ok3.a.slice; obtain ⟨aU, cU, rfl⟩ := ok3.b.slice; have OK3 := Hd ok3; have OO3 := Hd (fun (h : sp3 = true) => show OwnR wf w.heap.size (.slice aT a3.length cT) a3 ∧ OwnR wf w.heap.size (.slice aU b3.length cU) b3 from ⟨own_mono (oo3 h).1 (KB.out.trans (show Kp V3 _ from (ky kkwe))).size, own_mono (oo3 h).2 (KB.out.trans (show Kp V3 _ from (ky kkwe))).size⟩); clear ok3 oo3; clear kq1)
    (try go_wp2_with fail)
    refine hK.out _ _ ?_ (fun hHeld3 => ?_)
    ·(try dsimp only); exact KSb.out _ (ky kkwf)
    clear hK K hHeld2
    (try simp only [Act.put, niD11, xA, xB, xC])
    refine tkE 12 niD12 rfl (by kernel_rfl) (fun K hK => ?_)
    go_simp
    skip
    (try go_wp2_with fail)
    refine hK.out _ _ ?_ (fun hHeld4 => ?_)
    ·(try dsimp only); exact KSb.out _ (ky kkwf)
    clear hK K hHeld3
    (try simp only [Act.put, niD12, xA, xB, xC])
    refine tkE 13 niD13 rfl (by kernel_rfl) (fun K hK => ?_)
    go_simp
    skip
    (try go_wp2_with fail)
    refine hK.out _ _ ?_ (fun hHeld5 => ?_)
    ·(try dsimp only); exact KSb.out _ (ky kkwf)
    clear hK K hHeld4
    (try simp only [Act.put, niD13, xA, xB, xC])
    refine wpAnyH_done (by kernel_rfl) ?_ _
    obtain ⟨V4, hV4⟩ : ∃ x, x = wf.alloc (.cells #[.bool sp3, .int .i64 u3, .slice aT a3.length cT, .slice aU b3.length cU] 44) := ⟨_, rfl⟩
    have k4 : Kp V3 V4 := by rw [hV4]; exact kkwf.trans (Kp.alloc _ _)
    have hp4 : V4.heap[wf.heap.size]? = some (.cells #[.bool sp3, .int .i64 u3, .slice aT a3.length cT, .slice aU b3.length cU] 44 (0, 0)) := by rw [hV4]; exact heap_at _ _ _ rfl
    have LO4 := Hd (show LeafOk V4 ⟨sp3, u3, a3, b3⟩ (.slice aT a3.length cT) (.slice aU b3.length cU) from by rw [hV4]; exact OK3.out.kp (Kp.alloc _ _))
    have OO4 := Hd (fun (h : sp3 = true) => show OwnR V4 w.heap.size (.slice aT a3.length cT) a3 ∧ OwnR V4 w.heap.size (.slice aU b3.length cU) b3 from by rw [hV4]; exact ⟨own_kp (OO3.out h).1 (Kp.alloc _ _), own_kp (OO3.out h).2 (Kp.alloc _ _)⟩)
    have HV4 := Hd hV4
    have K4 := Hd (KB.out.trans k4)
    obtain ⟨p0, p1, p2, p3⟩ := row4 hp4
    clear hV4 k4 hp4 CA CB TY OA OB OK3 OO3 kkwd kkwe kkwf
    rw [← HV4.out]
    clear HV4
    by_cases h0 : a3.length = 0
    ·have q0 : ((a3.length : Int) == 0) = true := by rw [h0]; rfl
     have PFN := Hd (show [] = PX by rw [PF.out, if_pos h0])
     clear h0 PF LO4 OO4
     go_wp2
     go_ret
     exact ⟨_, [], rfl, PFN.out, fun p hp => (by cases hp), World.ownsRow_nil _ _ _ _, K4.out⟩
    have q0 : ((a3.length : Int) == 0) = false := beq_eq_false_iff_ne.2 (by omega)
    have PFN := Hd (show [⟨sp3, u3, a3, b3⟩] = PX by rw [PF.out, if_neg h0])
    have o4 := OO4.out (SPH.out h0)
    obtain ⟨V5, hV5⟩ : ∃ x, x = V4.alloc (.cells #[.bool sp3, .int .i64 u3, .slice aT a3.length cT, .slice aU b3.length cU] 44) := ⟨_, rfl⟩
    have OV := Hd (show OwnV V5 w.heap.size [((⟨sp3, u3, a3, b3⟩ : LF), ((.slice aT a3.length cT, .slice aU b3.length cU) : VV))] from fun p hp => by rw [List.mem_singleton.1 hp, hV5]; exact ⟨own_kp o4.1 (Kp.alloc _ _), own_kp o4.2 (Kp.alloc _ _)⟩)
    have OR := Hd (show V5.ownsRow w.heap.size 44 4 (.slice (some ⟨V4.heap.size, 0, none⟩) 1 1) 1 (cellsV [((⟨sp3, u3, a3, b3⟩ : LF), ((.slice aT a3.length cT, .slice aU b3.length cU) : VV))]) from by rw [hV5]; exact own_mono (own_leaf V4 ⟨sp3, u3, a3, b3⟩ (.slice aT a3.length cT) (.slice aU b3.length cU)) K4.out.size)
    have K5 := Hd (show Kp w V5 by rw [hV5]; exact K4.out.trans (Kp.alloc _ _))
    have HV5 := Hd hV5
    clear h0 PF LO4 OO4 o4 hV5
    go_wp2
    rw [← HV5.out]
    go_ret
    exact ⟨_, [((⟨sp3, u3, a3, b3⟩ : LF), ((.slice aT a3.length cT, .slice aU b3.length cU) : VV))], rfl, PFN.out, OV.out, OR.out, K5.out⟩
   ·go_simp
    skip
    (try go_wp2_with fail)
    refine hK.out _ _ ?_ (fun hHeld3 => ?_)
    ·(try dsimp only); exact KSb.out _ (ky kkwe)
    clear hK K hHeld2
    (try simp only [Act.put, niD12, xA, xB, xC])
    refine tkE 11 niD11 rfl (by kernel_rfl) (fun K hK => ?_)
    go_simp
    (refine (TY.out _ _ _ (OA.out.kp (ky (Kp.refl we))) (OB.out.kp (ky (Kp.refl we)))).mono ?_; rintro e wf ⟨va3, vb3, rfl, ok3, kq1⟩; have kkwf : Kp V3 wf := Kp.trans (show Kp V3 _ from (ky kkwe)) kq1; have hp : wf.heap[we.heap.size]? = some (.cells #[.bool false, .int .i64 0, .slice none 0 0, .slice none 0 0] 44 (0, 0)) := heap_block kq1 (by (repeat (first | with_reducible exact heap_at _ _ _ (by first | rfl | simp) | with_reducible refine heap_block (Kp.drew _) ?_ | with_reducible refine heap_block (Kp.alloc _ _) ?_))); obtain ⟨ok3, oo3⟩ := ok3; obtain ⟨aT, cT, rfl⟩ := ok3.a.slice; obtain ⟨aU, cU, rfl⟩ := ok3.b.slice; have OK3 := Hd ok3; have OO3 := Hd (fun (h : sp3 = true) => show OwnR wf w.heap.size (.slice aT a3.length cT) a3 ∧ OwnR wf w.heap.size (.slice aU b3.length cU) b3 from ⟨own_mono (oo3 h).1 (KB.out.trans (show Kp V3 _ from (ky kkwe))).size, own_mono (oo3 h).2 (KB.out.trans (show Kp V3 _ from (ky kkwe))).size⟩); clear ok3 oo3; obtain ⟨p0, p1, p2, p3⟩ := row4 hp; have f0 : wf.frozen? ⟨we.heap.size, 0, none⟩ = false := (by simp [World.frozen?, hp]); have f1 : wf.frozen? ⟨we.heap.size, 1, none⟩ = false := (by simp [World.frozen?, hp]); have f2 : wf.frozen? ⟨we.heap.size, 2, none⟩ = false := (by simp [World.frozen?, hp]); have f3 : wf.frozen? ⟨we.heap.size, 3, none⟩ = false := (by simp [World.frozen?, hp]); have hBle : V3.heap.size ≤ we.heap.size := Below.size (show Kp V3 we from kkwe); clear kq1)
    (try go_wp2_with fail)
    refine hK.out _ _ ?_ (fun hHeld4 => ?_)
    ·(try dsimp only); exact KSb.out _ (ky kkwf)
    clear hK K hHeld3
    (try simp only [Act.put, niD11, xA, xB, xC])
    refine tkE 13 niD13 rfl (by kernel_rfl) (fun K hK => ?_)
    go_simp
    skip
    (try go_wp2_with fail)
    refine hK.out _ _ ?_ (fun hHeld5 => ?_)
    ·(try dsimp only); exact KSb.out _ (by first | exact set4_below kkwf _ hBle _ _ _ _ | exact (set4_below kkwf _ hBle _ _ _ _).trans (Kp.drew _))
    clear hK K hHeld4
    (try simp only [Act.put, niD13, xA, xB, xC])
    refine wpAnyH_done (by kernel_rfl) ?_ _
    obtain ⟨V4, hV4⟩ : ∃ x, x = ((((wf.setCell ⟨we.heap.size, 0, none⟩ (.bool sp3)).setCell ⟨we.heap.size, 1, none⟩ (.int .i64 u3)).setCell ⟨we.heap.size, 2, none⟩ (.slice aT a3.length cT)).setCell ⟨we.heap.size, 3, none⟩ (.slice aU b3.length cU)) := ⟨_, rfl⟩
    have k4 : Kp V3 V4 := by rw [hV4]; exact set4_below kkwf _ hBle _ _ _ _
    have hp4 : V4.heap[we.heap.size]? = some (.cells #[.bool sp3, .int .i64 u3, .slice aT a3.length cT, .slice aU b3.length cU] 44 (0, 0)) := by rw [hV4]; exact set4_heap hp _ _ _ _
    have LO4 := Hd (show LeafOk V4 ⟨sp3, u3, a3, b3⟩ (.slice aT a3.length cT) (.slice aU b3.length cU) from ⟨by rw [hV4]; exact OK3.out.a.off hp (fun k o h => set4_cell _ _ _ _ _ _ k o h), by rw [hV4]; exact OK3.out.b.off hp (fun k o h => set4_cell _ _ _ _ _ _ k o h), OK3.out.ia, OK3.out.ib, OK3.out.na, OK3.out.nb⟩)
    have OO4 := Hd (fun (h : sp3 = true) => show OwnR V4 w.heap.size (.slice aT a3.length cT) a3 ∧ OwnR V4 w.heap.size (.slice aU b3.length cU) b3 from by rw [hV4]; exact ⟨own_far4 (OO3.out h).1 (own_type_ne (OO3.out h).1 hp (by decide)) _ _ _ _, own_far4 (OO3.out h).2 (own_type_ne (OO3.out h).2 hp (by decide)) _ _ _ _⟩)
    clear p0 p1 p2 p3 f0 f1 f2 f3 hp
    have HV4 := Hd hV4
    have K4 := Hd (KB.out.trans k4)
    obtain ⟨p0, p1, p2, p3⟩ := row4 hp4
    clear hV4 k4 hp4 CA CB TY OA OB OK3 OO3 kkwd kkwe kkwf
    rw [← HV4.out]
    clear HV4
    by_cases h0 : a3.length = 0
    ·have q0 : ((a3.length : Int) == 0) = true := by rw [h0]; rfl
     have PFN := Hd (show [] = PX by rw [PF.out, if_pos h0])
     clear h0 PF LO4 OO4
     go_wp2
     go_ret
     exact ⟨_, [], rfl, PFN.out, fun p hp => (by cases hp), World.ownsRow_nil _ _ _ _, K4.out⟩
    have q0 : ((a3.length : Int) == 0) = false := beq_eq_false_iff_ne.2 (by omega)
    have PFN := Hd (show [⟨sp3, u3, a3, b3⟩] = PX by rw [PF.out, if_neg h0])
    have o4 := OO4.out (SPH.out h0)
    obtain ⟨V5, hV5⟩ : ∃ x, x = V4.alloc (.cells #[.bool sp3, .int .i64 u3, .slice aT a3.length cT, .slice aU b3.length cU] 44) := ⟨_, rfl⟩
    have OV := Hd (show OwnV V5 w.heap.size [((⟨sp3, u3, a3, b3⟩ : LF), ((.slice aT a3.length cT, .slice aU b3.length cU) : VV))] from fun p hp => by rw [List.mem_singleton.1 hp, hV5]; exact ⟨own_kp o4.1 (Kp.alloc _ _), own_kp o4.2 (Kp.alloc _ _)⟩)
    have OR := Hd (show V5.ownsRow w.heap.size 44 4 (.slice (some ⟨V4.heap.size, 0, none⟩) 1 1) 1 (cellsV [((⟨sp3, u3, a3, b3⟩ : LF), ((.slice aT a3.length cT, .slice aU b3.length cU) : VV))]) from by rw [hV5]; exact own_mono (own_leaf V4 ⟨sp3, u3, a3, b3⟩ (.slice aT a3.length cT) (.slice aU b3.length cU)) K4.out.size)
    have K5 := Hd (show Kp w V5 by rw [hV5]; exact K4.out.trans (Kp.alloc _ _))
    have HV5 := Hd hV5
    clear h0 PF LO4 OO4 o4 hV5
    go_wp2
    rw [← HV5.out]
    go_ret
    exact ⟨_, [((⟨sp3, u3, a3, b3⟩ : LF), ((.slice aT a3.length cT, .slice aU b3.length cU) : VV))], rfl, PFN.out, OV.out, OR.out, K5.out⟩
  ·go_simp
   skip
   (try go_wp2_with fail)
   refine hK.out _ _ ?_ (fun hHeld2 => ?_)
   ·(try dsimp only); exact KSb.out _ (ky kkwd)
   clear hK K hHeld1
   (try simp only [Act.put, niD12, xA, xB, xC])
   refine tkE 9 niD9 rfl (by kernel_rfl) (fun K hK => ?_)
   go_simp
   (refine (CB.out _ (ky kkwd)).mono ?_; rintro e we ⟨v2, rfl, o2, kq1⟩; have kkwe : Kp V3 we := Kp.trans (show Kp V3 _ from (ky kkwd)) kq1; have hp : we.heap[wd.heap.size]? = some (.cells #[.bool false, .int .i64 0, .slice none 0 0, .slice none 0 0] 44 (0, 0)) := heap_block kq1 (by (repeat (first | with_reducible exact heap_at _ _ _ (by first | rfl | simp) | with_reducible refine heap_block (Kp.drew _) ?_ | with_reducible refine heap_block (Kp.alloc _ _) ?_))); obtain ⟨aB, lB, rfl⟩ := o2.slice; have OB := Hd o2; clear o2; have OA := Hd (OA.out.kp (Kp.trans (show Kp wd _ from (ky (Kp.refl wd))) kq1)); clear kq1)
   (try go_wp2_with fail)
   refine hK.out _ _ ?_ (fun hHeld3 => ?_)
   ·(try dsimp only); exact KSb.out _ (ky kkwe)
   clear hK K hHeld2
   (try simp only [Act.put, niD9, xA, xB, xC])
   refine tkv 10 niD10 ?_
   (try simp only [Act.put, niD10, xA, xB, xC])
   refine tkE 11 niD11 rfl (by kernel_rfl) (fun K hK => ?_)
   go_simp
   (refine (TY.out _ _ _ (OA.out.kp (ky (Kp.refl we))) (OB.out.kp (ky (Kp.refl we)))).mono ?_; rintro e wf ⟨va3, vb3, rfl, ok3, kq1⟩; have kkwf : Kp V3 wf := Kp.trans (show Kp V3 _ from (ky kkwe)) kq1; have hp : wf.heap[wd.heap.size]? = some (.cells #[.bool false, .int .i64 0, .slice none 0 0, .slice none 0 0] 44 (0, 0)) := heap_block (Kp.trans (show Kp we _ from (ky (Kp.refl we))) kq1) hp; obtain ⟨ok3, oo3⟩ := ok3; obtain ⟨aT, cT, rfl⟩ := ok3.a.slice; obtain ⟨aU, cU, rfl⟩ := ok3.b.slice; have OK3 := Hd ok3; have OO3 := Hd (fun (h : sp3 = true) => show OwnR wf w.heap.size (.slice aT a3.length cT) a3 ∧ OwnR wf w.heap.size (.slice aU b3.length cU) b3 from ⟨own_mono (oo3 h).1 (KB.out.trans (show Kp V3 _ from (ky kkwe))).size, own_mono (oo3 h).2 (KB.out.trans (show Kp V3 _ from (ky kkwe))).size⟩); clear ok3 oo3; obtain ⟨p0, p1, p2, p3⟩ := row4 hp; have f0 : wf.frozen? ⟨wd.heap.size, 0, none⟩ = false := (by simp [World.frozen?, hp]); have f1 : wf.frozen? ⟨wd.heap.size, 1, none⟩ = false := (by simp [World.frozen?, hp]); have f2 : wf.frozen? ⟨wd.heap.size, 2, none⟩ = false := (by simp [World.frozen?, hp]); have f3 : wf.frozen? ⟨wd.heap.size, 3, none⟩ = false := (by simp [World.frozen?, hp]); have hBle : V3.heap.size ≤ wd.heap.size := Below.size (show Kp V3 wd from kkwd); clear kq1)
   (try go_wp2_with fail)
   refine hK.out _ _ ?_ (fun hHeld4 => ?_)
   ·(try dsimp only); exact KSb.out _ (ky kkwf)
   clear hK K hHeld3
   (try simp only [Act.put, niD11, xA, xB, xC])
   refine tkE 13 niD13 rfl (by kernel_rfl) (fun K hK => ?_)
   go_simp
   skip
   (try go_wp2_with fail)
   refine hK.out _ _ ?_ (fun hHeld5 => ?_)
   ·(try dsimp only); exact KSb.out _ (by first | exact set4_below kkwf _ hBle _ _ _ _ | exact (set4_below kkwf _ hBle _ _ _ _).trans (Kp.drew _))
   clear hK K hHeld4
   (try simp only [Act.put, niD13, xA, xB, xC])
   refine wpAnyH_done (by kernel_rfl) ?_ _
   obtain ⟨V4, hV4⟩ : ∃ x, x = ((((wf.setCell ⟨wd.heap.size, 0, none⟩ (.bool sp3)).setCell ⟨wd.heap.size, 1, none⟩ (.int .i64 u3)).setCell ⟨wd.heap.size, 2, none⟩ (.slice aT a3.length cT)).setCell ⟨wd.heap.size, 3, none⟩ (.slice aU b3.length cU)) := ⟨_, rfl⟩
   have k4 : Kp V3 V4 := by rw [hV4]; exact set4_below kkwf _ hBle _ _ _ _
   have hp4 : V4.heap[wd.heap.size]? = some (.cells #[.bool sp3, .int .i64 u3, .slice aT a3.length cT, .slice aU b3.length cU] 44 (0, 0)) := by rw [hV4]; exact set4_heap hp _ _ _ _
   have LO4 := Hd (show LeafOk V4 ⟨sp3, u3, a3, b3⟩ (.slice aT a3.length cT) (.slice aU b3.length cU) from ⟨by rw [hV4]; exact OK3.out.a.off hp (fun k o h => set4_cell _ _ _ _ _ _ k o h), by rw [hV4]; exact OK3.out.b.off hp (fun k o h => set4_cell _ _ _ _ _ _ k o h), OK3.out.ia, OK3.out.ib, OK3.out.na, OK3.out.nb⟩)
   have OO4 := Hd (fun (h : sp3 = true) => show OwnR V4 w.heap.size (.slice aT a3.length cT) a3 ∧ OwnR V4 w.heap.size (.slice aU b3.length cU) b3 from by rw [hV4]; exact ⟨own_far4 (OO3.out h).1 (own_type_ne (OO3.out h).1 hp (by decide)) _ _ _ _, own_far4 (OO3.out h).2 (own_type_ne (OO3.out h).2 hp (by decide)) _ _ _ _⟩)
   clear p0 p1 p2 p3 f0 f1 f2 f3 hp
   have HV4 := Hd hV4
   have K4 := Hd (KB.out.trans k4)
   obtain ⟨p0, p1, p2, p3⟩ := row4 hp4
   clear hV4 k4 hp4 CA CB TY OA OB OK3 OO3 kkwd kkwe kkwf
   rw [← HV4.out]
   clear HV4
   by_cases h0 : a3.length = 0
   ·have q0 : ((a3.length : Int) == 0) = true := by rw [h0]; rfl
    have PFN := Hd (show [] = PX by rw [PF.out, if_pos h0])
    clear h0 PF LO4 OO4
    go_wp2
    go_ret
    exact ⟨_, [], rfl, PFN.out, fun p hp => (by cases hp), World.ownsRow_nil _ _ _ _, K4.out⟩
   have q0 : ((a3.length : Int) == 0) = false := beq_eq_false_iff_ne.2 (by omega)
   have PFN := Hd (show [⟨sp3, u3, a3, b3⟩] = PX by rw [PF.out, if_neg h0])
   have o4 := OO4.out (SPH.out h0)
   obtain ⟨V5, hV5⟩ : ∃ x, x = V4.alloc (.cells #[.bool sp3, .int .i64 u3, .slice aT a3.length cT, .slice aU b3.length cU] 44) := ⟨_, rfl⟩
   have OV := Hd (show OwnV V5 w.heap.size [((⟨sp3, u3, a3, b3⟩ : LF), ((.slice aT a3.length cT, .slice aU b3.length cU) : VV))] from fun p hp => by rw [List.mem_singleton.1 hp, hV5]; exact ⟨own_kp o4.1 (Kp.alloc _ _), own_kp o4.2 (Kp.alloc _ _)⟩)
   have OR := Hd (show V5.ownsRow w.heap.size 44 4 (.slice (some ⟨V4.heap.size, 0, none⟩) 1 1) 1 (cellsV [((⟨sp3, u3, a3, b3⟩ : LF), ((.slice aT a3.length cT, .slice aU b3.length cU) : VV))]) from by rw [hV5]; exact own_mono (own_leaf V4 ⟨sp3, u3, a3, b3⟩ (.slice aT a3.length cT) (.slice aU b3.length cU)) K4.out.size)
   have K5 := Hd (show Kp w V5 by rw [hV5]; exact K4.out.trans (Kp.alloc _ _))
   have HV5 := Hd hV5
   clear h0 PF LO4 OO4 o4 hV5
   go_wp2
   rw [← HV5.out]
   go_ret
   exact ⟨_, [((⟨sp3, u3, a3, b3⟩ : LF), ((.slice aT a3.length cT, .slice aU b3.length cU) : VV))], rfl, PFN.out, OV.out, OR.out, K5.out⟩
 ·go_simp
  skip
  (try go_wp2_with fail)
  refine hK.out _ _ ?_ (fun hHeld1 => ?_)
  ·(try dsimp only); exact KSb.out _ (ky kkV3)
  clear hK K hHeld0
  (try simp only [Act.put, niD12, xA, xB, xC])
  refine tkE 4 niD4 rfl (by kernel_rfl) (fun K hK => ?_)
  go_simp
  (refine (CA.out _ (ky kkV3)).mono ?_; rintro e wd ⟨v1, rfl, o1, kq1⟩; have kkwd : Kp V3 wd := Kp.trans (show Kp V3 _ from (ky kkV3)) kq1; have hp : wd.heap[V3.heap.size]? = some (.cells #[.bool false, .int .i64 0, .slice none 0 0, .slice none 0 0] 44 (0, 0)) := heap_block kq1 (by (repeat (first | with_reducible exact heap_at _ _ _ (by first | rfl | simp) | with_reducible refine heap_block (Kp.drew _) ?_ | with_reducible refine heap_block (Kp.alloc _ _) ?_))); obtain ⟨aA, lA, rfl⟩ := o1.slice; have OA := Hd o1; clear o1; clear kq1)
  (try go_wp2_with fail)
  refine hK.out _ _ ?_ (fun hHeld2 => ?_)
  ·(try dsimp only); exact KSb.out _ (ky kkwd)
  clear hK K hHeld1
  (try simp only [Act.put, niD4, xA, xB, xC])
  refine tkE 9 niD9 rfl (by kernel_rfl) (fun K hK => ?_)
  go_simp
  (refine (CB.out _ (ky kkwd)).mono ?_; rintro e we ⟨v2, rfl, o2, kq1⟩; have kkwe : Kp V3 we := Kp.trans (show Kp V3 _ from (ky kkwd)) kq1; have hp : we.heap[V3.heap.size]? = some (.cells #[.bool false, .int .i64 0, .slice none 0 0, .slice none 0 0] 44 (0, 0)) := heap_block (Kp.trans (show Kp wd _ from (ky (Kp.refl wd))) kq1) hp; obtain ⟨aB, lB, rfl⟩ := o2.slice; have OB := Hd o2; clear o2; have OA := Hd (OA.out.kp (Kp.trans (show Kp wd _ from (ky (Kp.refl wd))) kq1)); clear kq1)
  (try go_wp2_with fail)
  refine hK.out _ _ ?_ (fun hHeld3 => ?_)
  ·(try dsimp only); exact KSb.out _ (ky kkwe)
  clear hK K hHeld2
  (try simp only [Act.put, niD9, xA, xB, xC])
  refine tkv 10 niD10 ?_
  (try simp only [Act.put, niD10, xA, xB, xC])
  refine tkE 11 niD11 rfl (by kernel_rfl) (fun K hK => ?_)
  go_simp
  (refine (TY.out _ _ _ (OA.out.kp (ky (Kp.refl we))) (OB.out.kp (ky (Kp.refl we)))).mono ?_; rintro e wf ⟨va3, vb3, rfl, ok3, kq1⟩; have kkwf : Kp V3 wf := Kp.trans (show Kp V3 _ from (ky kkwe)) kq1; have hp : wf.heap[V3.heap.size]? = some (.cells #[.bool false, .int .i64 0, .slice none 0 0, .slice none 0 0] 44 (0, 0)) := heap_block (Kp.trans (show Kp we _ from (ky (Kp.refl we))) kq1) hp; obtain ⟨ok3, oo3⟩ := ok3; obtain ⟨aT, cT, rfl⟩ := ok3.a.slice; obtain ⟨aU, cU, rfl⟩ := ok3.b.slice; have OK3 := Hd ok3; have OO3 := Hd (fun (h : sp3 = true) => show OwnR wf w.heap.size (.slice aT a3.length cT) a3 ∧ OwnR wf w.heap.size (.slice aU b3.length cU) b3 from ⟨own_mono (oo3 h).1 (KB.out.trans (show Kp V3 _ from (ky kkwe))).size, own_mono (oo3 h).2 (KB.out.trans (show Kp V3 _ from (ky kkwe))).size⟩); clear ok3 oo3; obtain ⟨p0, p1, p2, p3⟩ := row4 hp; have f0 : wf.frozen? ⟨V3.heap.size, 0, none⟩ = false := (by simp [World.frozen?, hp]); have f1 : wf.frozen? ⟨V3.heap.size, 1, none⟩ = false := (by simp [World.frozen?, hp]); have f2 : wf.frozen? ⟨V3.heap.size, 2, none⟩ = false := (by simp [World.frozen?, hp]); have f3 : wf.frozen? ⟨V3.heap.size, 3, none⟩ = false := (by simp [World.frozen?, hp]); have hBle : V3.heap.size ≤ V3.heap.size := Below.size (show Kp V3 V3 from kkV3); clear kq1)
  (try go_wp2_with fail)
  refine hK.out _ _ ?_ (fun hHeld4 => ?_)
  ·(try dsimp only); exact KSb.out _ (ky kkwf)
  clear hK K hHeld3
  (try simp only [Act.put, niD11, xA, xB, xC])
  refine tkE 13 niD13 rfl (by kernel_rfl) (fun K hK => ?_)
  go_simp
  skip
  (try go_wp2_with fail)
  refine hK.out _ _ ?_ (fun hHeld5 => ?_)
  ·(try dsimp only); exact KSb.out _ (by first | exact set4_below kkwf _ hBle _ _ _ _ | exact (set4_below kkwf _ hBle _ _ _ _).trans (Kp.drew _))
  clear hK K hHeld4
  (try simp only [Act.put, niD13, xA, xB, xC])
  refine wpAnyH_done (by kernel_rfl) ?_ _
  obtain ⟨V4, hV4⟩ : ∃ x, x = ((((wf.setCell ⟨V3.heap.size, 0, none⟩ (.bool sp3)).setCell ⟨V3.heap.size, 1, none⟩ (.int .i64 u3)).setCell ⟨V3.heap.size, 2, none⟩ (.slice aT a3.length cT)).setCell ⟨V3.heap.size, 3, none⟩ (.slice aU b3.length cU)) := ⟨_, rfl⟩
  have k4 : Kp V3 V4 := by rw [hV4]; exact set4_below kkwf _ hBle _ _ _ _
  have hp4 : V4.heap[V3.heap.size]? = some (.cells #[.bool sp3, .int .i64 u3, .slice aT a3.length cT, .slice aU b3.length cU] 44 (0, 0)) := by rw [hV4]; exact set4_heap hp _ _ _ _
  have LO4 := Hd (show LeafOk V4 ⟨sp3, u3, a3, b3⟩ (.slice aT a3.length cT) (.slice aU b3.length cU) from ⟨by rw [hV4]; exact OK3.out.a.off hp (fun k o h => set4_cell _ _ _ _ _ _ k o h), by rw [hV4]; exact OK3.out.b.off hp (fun k o h => set4_cell _ _ _ _ _ _ k o h), OK3.out.ia, OK3.out.ib, OK3.out.na, OK3.out.nb⟩)
  have OO4 := Hd (fun (h : sp3 = true) => show OwnR V4 w.heap.size (.slice aT a3.length cT) a3 ∧ OwnR V4 w.heap.size (.slice aU b3.length cU) b3 from by rw [hV4]; exact ⟨own_far4 (OO3.out h).1 (own_type_ne (OO3.out h).1 hp (by decide)) _ _ _ _, own_far4 (OO3.out h).2 (own_type_ne (OO3.out h).2 hp (by decide)) _ _ _ _⟩)
  clear p0 p1 p2 p3 f0 f1 f2 f3 hp
  have HV4 := Hd hV4
  have K4 := Hd (KB.out.trans k4)
  obtain ⟨p0, p1, p2, p3⟩ := row4 hp4
  clear hV4 k4 hp4 CA CB TY OA OB OK3 OO3 kkwd kkwe kkwf
  rw [← HV4.out]
  clear HV4
  by_cases h0 : a3.length = 0
  ·have q0 : ((a3.length : Int) == 0) = true := by rw [h0]; rfl
   have PFN := Hd (show [] = PX by rw [PF.out, if_pos h0])
   clear h0 PF LO4 OO4
   go_wp2
   go_ret
   exact ⟨_, [], rfl, PFN.out, fun p hp => (by cases hp), World.ownsRow_nil _ _ _ _, K4.out⟩
  have q0 : ((a3.length : Int) == 0) = false := beq_eq_false_iff_ne.2 (by omega)
  have PFN := Hd (show [⟨sp3, u3, a3, b3⟩] = PX by rw [PF.out, if_neg h0])
  have o4 := OO4.out (SPH.out h0)
  obtain ⟨V5, hV5⟩ : ∃ x, x = V4.alloc (.cells #[.bool sp3, .int .i64 u3, .slice aT a3.length cT, .slice aU b3.length cU] 44) := ⟨_, rfl⟩
  have OV := Hd (show OwnV V5 w.heap.size [((⟨sp3, u3, a3, b3⟩ : LF), ((.slice aT a3.length cT, .slice aU b3.length cU) : VV))] from fun p hp => by rw [List.mem_singleton.1 hp, hV5]; exact ⟨own_kp o4.1 (Kp.alloc _ _), own_kp o4.2 (Kp.alloc _ _)⟩)
  have OR := Hd (show V5.ownsRow w.heap.size 44 4 (.slice (some ⟨V4.heap.size, 0, none⟩) 1 1) 1 (cellsV [((⟨sp3, u3, a3, b3⟩ : LF), ((.slice aT a3.length cT, .slice aU b3.length cU) : VV))]) from by rw [hV5]; exact own_mono (own_leaf V4 ⟨sp3, u3, a3, b3⟩ (.slice aT a3.length cT) (.slice aU b3.length cU)) K4.out.size)
  have K5 := Hd (show Kp w V5 by rw [hV5]; exact K4.out.trans (Kp.alloc _ _))
  have HV5 := Hd hV5
  clear h0 PF LO4 OO4 o4 hV5
  go_wp2
  rw [← HV5.out]
  go_ret
  exact ⟨_, [((⟨sp3, u3, a3, b3⟩ : LF), ((.slice aT a3.length cT, .slice aU b3.length cU) : VV))], rfl, PFN.out, OV.out, OR.out, K5.out⟩
theorem nidaysO_any (f : LF) (va vb vm : Value) (m : List LF) (w : World) (h : LeafOk w f va vb) (hm : LeavesAt w vm m) (hl : LsOk m) (n1 : ∀ g ∈ m, (posR [g]).length ≤ 400) (n2 : ∀ k, (preN m k).length ≤ 1000) :
  Calls Tryz.prog 82 #[leafV f va vb, vm] w fun e w' => ∃ v' x, e = .returned v' ∧ x.map Prod.fst = dysL f.a m ∧ OwnV w' w.heap.size x ∧ w'.ownsRow w.heap.size 44 4 v' x.length (cellsV x) ∧ Kp w w' := by
 obtain ⟨sf, uf, af, bf⟩ := f
 obtain ⟨aa, ca, rfl⟩ := h.a.slice
 obtain ⟨ab, cb, rfl⟩ := h.b.slice
 have hmx0 := hm.len
 unfold maxLen at hmx0
 obtain ⟨adm, cpm, rfl⟩ := hm.slice
 have na := h.na
 simp only at na
 simp only [leafV] at *
 obtain ⟨V3, hVb⟩ : ∃ x, x = w.alloc (.cells #[.bool sf, .int .i64 uf, .slice aa af.length ca, .slice ab bf.length cb] 44) := ⟨_, rfl⟩
 have kab : Kp w V3 := by rw [hVb]; exact Kp.alloc _ _
 have gqb0 : V3.heap[w.heap.size]? = some (.cells #[.bool sf, .int .i64 uf, .slice aa af.length ca, .slice ab bf.length cb] 44 (0, 0)) := by rw [hVb]; exact heap_at _ _ _ (by first | rfl | simp)
 have KSb := Hd (fun w' (kq : Kp V3 w') => show w'.cell? ⟨w.heap.size, 0, none⟩ = some (.bool sf) ∧ w'.cell? ⟨w.heap.size, 1, none⟩ = some (.int .i64 uf) ∧ w'.cell? ⟨w.heap.size, 2, none⟩ = some (.slice aa af.length ca) ∧ w'.cell? ⟨w.heap.size, 3, none⟩ = some (.slice ab bf.length cb) ∧ Kp V3 w' from ⟨(row4 (heap_block kq gqb0)).1, (row4 (heap_block kq gqb0)).2.1, (row4 (heap_block kq gqb0)).2.2.1, (row4 (heap_block kq gqb0)).2.2.2, kq⟩)
 have GQb0 := Hd gqb0
 have HVb := Hd hVb
 have KB := Hd kab
 clear hVb kab gqb0
 have kkV3 : Kp V3 V3 := Kp.refl _
 have HVM := Hd hm
 have HL := Hd hl
 have N1 := Hd (fun k (hk : k < m.length) => n1 _ (lat_mem hk))
 have PS := Hd (fun k (hk : k < m.length) => preN_next hk)
 have N2 := Hd n2
 have P0 := Hd (show RunsAt V3 (.slice none 0 0) (preN m 0) by rw [show preN m 0 = [] from posR_none rfl]; exact .inl ⟨_, _, rfl, rfl⟩)
 have PW := Hd (preN_sane m)
 have PE := Hd (preN_all m)
 have CM := Hd (fun v w1 (kk : Kp V3 w1) (r : RunsAt w1 v (posR m)) (n : (posR m).length ≤ 1000) => rmeetO_any _ v af (posR m) w1 (h.a.kp (KB.out.trans kk)) r h.ia (sane_i64 (posR_sane _)) (by omega) (by omega))
 have DF := Hd (show dysL af m = if (interR af (posR m)).length = 0 then [] else [⟨false, 0, interR af (posR m), []⟩] from rfl)
 generalize dysL af m = DX at *
 generalize interR af (posR m) = IX at *
 generalize preN m = PP at *
 generalize posR m = PM at *
 clear h hm hl n1 n2 na
 go_enter Tryz.func82, Tryz.ntmps82
 go_wp2
 rw [← HVb.out]
 go_loopw [5, 6] (fun q i wr => ∃ k : Nat, k ≤ m.length ∧ i = .int .i64 k ∧ Hid (RunsAt wr q (PP k)) ∧ Hid (Kp V3 wr)) (fun _ i _ => m.length - (intOf i).toNat)
 case atStart => exact ⟨0, Nat.zero_le _, rfl, P0, Hd (Kp.refl _)⟩
 case round =>
  obtain ⟨k, hk, rfl, RO, J⟩ := hrel
  obtain ⟨qa, qc, rfl⟩ := RO.out.slice
  by_cases hlt : k < m.length
  ·have q1 : decide ((k : Int) < (m.length : Int)) = true := dT
   have g1 := N1.out k hlt
   have p1 := PS.out k hlt
   have n0 := N2.out k
   rcases HVM.out.kp (KB.out.trans J.out) with ⟨_, _, _, e⟩ | ⟨b0, off, cap, ev, hc, hmx, hx⟩
   ·rw [e] at hlt; simp at hlt
   cases ev
   obtain ⟨va, vb, d0, d1, d2, d3, ra, rb⟩ := hx k hlt
   have LOK := HL.out _ (lat_mem hlt)
   obtain ⟨f, hf⟩ : ∃ f, lat m k = f := ⟨_, rfl⟩
   rw [hf] at d0 d1 ra rb
   (try rw [hf] at LOK)
   obtain ⟨sp, u, a, b⟩ := f
   simp only at d0 d1 ra rb
   (try simp only at LOK)
   obtain ⟨aa, ca, rfl⟩ := ra.slice
   obtain ⟨ab, cb, rfl⟩ := rb.slice
   have HF := Hd hf
   have z1 : (k : Int) < (m.length : Int) := by omega
   have z2 : (0 : Int) ≤ (k : Int) := by omega
   clear hx hc hmx hf
   rw [HF.out] at g1 p1
   obtain ⟨V, hV⟩ : ∃ x, x = wr.alloc (.cells #[.bool sp, .int .i64 u, .slice aa a.length ca, .slice ab b.length cb] 44) := ⟨_, rfl⟩
   have kv : Kp wr V := by rw [hV]; exact Kp.alloc _ _
   have gv : V.heap[wr.heap.size]? = some (.cells #[.bool sp, .int .i64 u, .slice aa a.length ca, .slice ab b.length cb] 44 (0, 0)) := by rw [hV]; exact heap_at _ _ _ rfl
   have lv := leaf_oneN gv (ra.kp kv) (rb.kp kv)
   have C := Hd (refDays_any _ [⟨sp, u, a, b⟩] V lv (fun f hf => by rw [List.mem_singleton.1 hf]; exact LOK) (by simp))
   rw [if_neg (by omega), if_neg (by omega)] at C
   have KV := Hd (J.out.trans kv)
   have RV := Hd (RO.out.kp kv)
   have CU := Hd (fun v w2 (kk : Kp V w2) (r : RunsAt w2 v (posR [⟨sp, u, a, b⟩])) => runion_any _ v (PP k) (posR [⟨sp, u, a, b⟩]) w2 (RV.out.kp kk) r (sane_i64 (PW.out k)) (sane_i64 (posR_sane _)) (by omega))
   rw [p1] at CU
   generalize posR [⟨sp, u, a, b⟩] = E at *
   have HVV := Hd hV
   clear hV kv gv lv ra rb g1 p1 n0
   go_wp2_with fail
   rw [← HVV.out]
   clear d0 d1 d2 d3 HVV
   refine C.out.mono ?_
   rintro e w1 ⟨v1, rfl, r1, kk⟩
   have K1 := Hd kk
   have R1 := Hd r1
   obtain ⟨a1, c1, rfl⟩ := r1.slice
   clear r1 kk C
   go_wp2_with fail
   refine (CU.out _ _ (ky K1.out) (R1.out.kp kx)).mono ?_
   rintro e w2 ⟨v2, rfl, r2, kk⟩
   have R2 := Hd r2
   have J2 := Hd (KV.out.trans ((show Kp V _ from (ky K1.out)).trans kk))
   clear r2 kk CU
   go_wp2
   go_roundw
   case rel => exact ⟨k + 1, by omega, by go_num, R2, J2⟩
   case measure => simp [intOf]; omega
  ·have q1 : decide ((k : Int) < (m.length : Int)) = false := dF
   obtain rfl : k = m.length := by omega
   have n0 := N2.out m.length
   have r9 := RO.out
   rw [PE.out] at r9 n0
   have R9 := Hd (show RunsAt wr (.slice qa (PP m.length).length qc) PM by rw [PE.out]; exact r9)
   have CM2 := Hd (fun w1 (kk : Kp wr w1) => CM.out _ w1 (J.out.trans kk) (R9.out.kp kk) n0)
   obtain ⟨e0, e1, e2, e3, _⟩ := KSb.out wr J.out
   have ZR := Hd (Kp.refl wr)
   clear r9 n0 RO N1 N2 PS P0 CM
   go_wp2_with fail
   refine (CM2.out _ (ky ZR.out)).mono ?_
   rintro e w3 ⟨v3, rfl, r3, kk⟩
   obtain ⟨a3, c3, rfl⟩ := own_slice r3
   have R3 := Hd (own_mono r3 (KB.out.trans (J.out.trans (show Kp wr _ from (ky ZR.out)))).size)
   have K3 := Hd (KB.out.trans (J.out.trans ((show Kp wr _ from (ky ZR.out)).trans kk)))
   clear r3 kk e0 e1 e2 e3
   by_cases h0 : IX.length = 0
   ·have q0 : ((IX.length : Int) == 0) = true := by rw [h0]; rfl
    have LN := Hd (show [] = DX by rw [DF.out, if_pos h0])
    clear h0 DF
    go_wp2
    go_ret
    exact ⟨_, [], rfl, LN.out, fun p hp => (by cases hp), World.ownsRow_nil _ _ _ _, K3.out⟩
   have q0 : ((IX.length : Int) == 0) = false := beq_eq_false_iff_ne.2 (by omega)
   have LN := Hd (show [⟨false, 0, IX, []⟩] = DX by rw [DF.out, if_neg h0])
   obtain ⟨V5, hV5⟩ : ∃ x, x = w3.alloc (.cells #[.bool false, .int .i64 0, .slice a3 IX.length c3, .slice none 0 0] 44) := ⟨_, rfl⟩
   have OV := Hd (show OwnV V5 w.heap.size [((⟨false, 0, IX, []⟩ : LF), ((.slice a3 IX.length c3, .slice none 0 0) : VV))] from fun p hp => by rw [List.mem_singleton.1 hp, hV5]; exact ⟨own_kp R3.out (Kp.alloc _ _), World.ownsRow_nil _ _ _ _⟩)
   have OR := Hd (show V5.ownsRow w.heap.size 44 4 (.slice (some ⟨w3.heap.size, 0, none⟩) 1 1) 1 (cellsV [((⟨false, 0, IX, []⟩ : LF), ((.slice a3 IX.length c3, .slice none 0 0) : VV))]) from by rw [hV5]; exact own_mono (own_leaf w3 ⟨false, 0, IX, []⟩ (.slice a3 IX.length c3) (.slice none 0 0)) K3.out.size)
   have K5 := Hd (show Kp w V5 by rw [hV5]; exact K3.out.trans (Kp.alloc _ _))
   have HV5 := Hd hV5
   clear h0 DF hV5
   go_wp2
   rw [← HV5.out]
   go_ret
   exact ⟨_, [((⟨false, 0, IX, []⟩ : LF), ((.slice a3 IX.length c3, .slice none 0 0) : VV))], rfl, LN.out, OV.out, OR.out, K5.out⟩
end Go.Proofs.YtcooaoponkkpeaaGreatDoor
