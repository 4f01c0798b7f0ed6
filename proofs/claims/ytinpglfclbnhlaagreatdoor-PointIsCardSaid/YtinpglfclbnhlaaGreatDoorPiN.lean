/-
  Layer 8, the document's answer: contract of Near (PointIs).
-/
import Derived.Test.YtinpglfclbnhlaaGreatDoorPiF
namespace Go.Proofs.YtinpglfclbnhlaaGreatDoor
open Go.RowKit
set_option linter.unusedVariables false
set_option linter.unusedSimpArgs false
theorem rad_same (k : Int) : radR k = radV k := rfl
theorem growR_units (p : PT) : unitsR p.k (nf (shR (-(grK (radV p.k))) (grK (radV p.k)) (nf (setS p)))) = growR p := rfl
theorem growR_sn (p : PT) : sane (growR p) := interR_sane _ _
theorem rnil_at (w : World) : RunsAt w (.slice none 0 0) [] := runsAt_own (World.ownsRow_nil w 0 37 2)
abbrev pnA0 : Oper := { dst := some 17, op := Go.Op.fieldAddr 23 (Go.Operand.tmp 1) 0, type := 0, pos := "ref.go:193", after := #[], guard := none }
abbrev pnA1 : Oper := { dst := some 18, op := Go.Op.load 3 (Go.Operand.tmp 17), type := 3, pos := "ref.go:193", after := #[{ on := 0, ground := Go.Ground.data }], guard := none }
abbrev pnA2 : Oper := { dst := some 19, op := Go.Op.move (Go.Operand.tmp 4), type := 28, pos := "ref.go:193", after := #[], guard := none }
abbrev pnA3 : Oper := { dst := some 20, op := Go.Op.fieldAddr 23 (Go.Operand.tmp 1) 0, type := 0, pos := "ref.go:193", after := #[], guard := none }
abbrev pnA4 : Oper := { dst := some 21, op := Go.Op.load 3 (Go.Operand.tmp 20), type := 3, pos := "ref.go:193", after := #[{ on := 3, ground := Go.Ground.data }], guard := none }
abbrev pnA5 : Oper := { dst := some 22, op := Go.Op.call { callee := Go.Callee.value (Go.Operand.func 18), args := #[Go.Operand.tmp 21], argTypes := #[3] }, type := 3, pos := "ref.go:193", after := #[{ on := 4, ground := Go.Ground.data }], guard := none }
abbrev pnA6 : Oper := { dst := some 23, op := Go.Op.call { callee := Go.Callee.value (Go.Operand.func 29), args := #[Go.Operand.tmp 19, Go.Operand.tmp 22], argTypes := #[28, 3] }, type := 28, pos := "ref.go:193", after := #[{ on := 2, ground := Go.Ground.data }, { on := 5, ground := Go.Ground.data }, { on := 5, ground := Go.Ground.chain }], guard := none }
abbrev pnA7 : Oper := { dst := some 24, op := Go.Op.call { callee := Go.Callee.value (Go.Operand.func 28), args := #[Go.Operand.tmp 18, Go.Operand.tmp 23], argTypes := #[3, 28] }, type := 28, pos := "ref.go:193", after := #[{ on := 1, ground := Go.Ground.data }, { on := 6, ground := Go.Ground.data }, { on := 6, ground := Go.Ground.chain }], guard := none }
abbrev pnA8 : Oper := { dst := some 6, op := Go.Op.assign (Go.Operand.tmp 24), type := 28, pos := "ref.go:193", after := #[{ on := 7, ground := Go.Ground.data }, { on := 7, ground := Go.Ground.chain }, { on := 0, ground := Go.Ground.phase }, { on := 1, ground := Go.Ground.phase }, { on := 2, ground := Go.Ground.phase }, { on := 3, ground := Go.Ground.phase }, { on := 4, ground := Go.Ground.phase }, { on := 5, ground := Go.Ground.phase }, { on := 6, ground := Go.Ground.phase }, { on := 7, ground := Go.Ground.phase }], guard := none }
set_option maxHeartbeats 16000000 in
set_option maxRecDepth 100000 in
theorem rnear8_any (p : PT) (w : World) (hy : p.y.size ≤ 10) (hm : p.m.size ≤ 10) (hd : p.d.size ≤ 10) :
    Calls Tryz.prog 11 #[ptV p] w fun e w' => ∃ v' : Value, e = .returned (.tuple #[v', .int .i64 (nearE p)]) ∧ RunsAt w' v' (nearS p) ∧ Kp w w' := by
  obtain ⟨k, y, m, d⟩ := p
  have CS := Lib.hid (fun w1 => rset8_any ⟨k, y, m, d⟩ w1 hy hm hd)
  have CR := Lib.hid (fun w1 => rradius_any k w1)
  rw [rad_same k] at CR
  have CG0 := Lib.hid (fun v w1 (h : RunsAt w1 v (setS ⟨k, y, m, d⟩)) => rgrow_any v (setS ⟨k, y, m, d⟩) (radV k) w1 h (setS_i64 _) (by have := setS_len ⟨k, y, m, d⟩; omega))
  have GL : (nf (shR (-(grK (radV k))) (grK (radV k)) (nf (setS ⟨k, y, m, d⟩)))).length ≤ 1000000 := by
    have a := setS_len ⟨k, y, m, d⟩
    have b := nf_len (setS ⟨k, y, m, d⟩)
    have c := nf_len (shR (-(grK (radV k))) (grK (radV k)) (nf (setS ⟨k, y, m, d⟩)))
    rw [shR_len] at c
    omega
  have CN := Lib.hid (fun v w1 h => runits_any k v (nf (shR (-(grK (radV k))) (grK (radV k)) (nf (setS ⟨k, y, m, d⟩)))) w1 h (sane_i64 (nf_sane _)) GL)
  rw [growR_units ⟨k, y, m, d⟩] at CN
  have GRL := growR_len ⟨k, y, m, d⟩
  have GRS := growR_sn ⟨k, y, m, d⟩
  have CE := Lib.hid (fun v w1 h => rstarts_any k v (growR ⟨k, y, m, d⟩) w1 h (sane_i64 GRS) GRL)
  have CA := Lib.hid (fun v w1 h => asR_any v (growR ⟨k, y, m, d⟩) w1 h (sane_i64 GRS) GRL w1 (Kp.refl w1))
  rw [nf_of_sane GRS] at CA
  have qn : ∀ n : Int, ¬ n = 0 → (n == 0) = false := fun n h => beq_eq_false_iff_ne.2 h
  unfold nearE nearS
  simp only [ptV] at *
  generalize setE ⟨k, y, m, d⟩ = er at *
  generalize growR ⟨k, y, m, d⟩ = gr at *
  generalize nf (shR (-(grK (radV k))) (grK (radV k)) (nf (setS ⟨k, y, m, d⟩))) = G at *
  generalize setS ⟨k, y, m, d⟩ = sr at *
  generalize radV k = rk at *
  generalize edgB k gr = be at *
  clear hy hm hd GL GRL GRS
  obtain ⟨V3, hVb⟩ : ∃ x, x = w.alloc (.cells #[.int .i64 k, .string y, .string m, .string d] 23) := ⟨_, rfl⟩
  have kab : Kp w V3 := by rw [hVb]; exact Kp.alloc _ _
  have gqb0 : V3.heap[w.heap.size]? = some (.cells #[.int .i64 k, .string y, .string m, .string d] 23 (0, 0)) := by rw [hVb]; exact heap_at _ _ _ (by first | rfl | simp)
  have KSb := Lib.hid (fun w' (kq : Kp V3 w') => show w'.cell? ⟨w.heap.size, 0, none⟩ = some (.int .i64 k) ∧ w'.cell? ⟨w.heap.size, 1, none⟩ = some (.string y) ∧ w'.cell? ⟨w.heap.size, 2, none⟩ = some (.string m) ∧ w'.cell? ⟨w.heap.size, 3, none⟩ = some (.string d) ∧ Kp V3 w' from ⟨(row4 (heap_block kq gqb0)).1, (row4 (heap_block kq gqb0)).2.1, (row4 (heap_block kq gqb0)).2.2.1, (row4 (heap_block kq gqb0)).2.2.2, kq⟩)
  have GQb0 := Lib.hid gqb0
  have HVb := Lib.hid hVb
  have KB := Lib.hid kab
  clear hVb kab gqb0
  have kkV3 : Kp V3 V3 := Kp.refl _
  by_cases he : er = 0
  · subst he
    rw [if_pos rfl, if_pos rfl]
    clear qn
    obtain ⟨ev, hev⟩ : ∃ x : Int, (if be = true then (0 : Int) else 8) = x := ⟨_, rfl⟩
    obtain ⟨sv, hsv⟩ : ∃ x : List R, (if be = true then gr else []) = x := ⟨_, rfl⟩
    rw [hev, hsv]
    have HE := Lib.hid hev
    have HS := Lib.hid hsv
    clear hev hsv
    go_enter Tryz.func11, Tryz.ntmps11
    go_wp2_with fail
    rw [← HVb.out]
    obtain ⟨e0, e1, e2, e3, _⟩ := KSb.out V3 (Kp.refl _)
    go_wp2_with fail
    refine (CS.out _).mono ?_
    rintro e w1 ⟨v1, rfl, o1, kk⟩
    have K1 := Lib.hid kk
    have R1 := Lib.hid (runsAt_own o1)
    obtain ⟨qa, qc, rfl⟩ := own_slice o1
    clear kk o1 e0 e1 e2 e3
    obtain ⟨e0, e1, e2, e3, _⟩ := KSb.out w1 K1.out
    have KSp := Lib.hid (fun w' (kq : Kp w1 w') => show w'.cell? ⟨w.heap.size, 0, none⟩ = some (.int .i64 k) ∧ Kp w1 w' from ⟨(KSb.out w' (K1.out.trans kq)).1, kq⟩)
    have kkw1 : Kp w1 w1 := Kp.refl _
    have CG := Lib.hid (fun w2 (q : Kp w1 w2) => CG0.out _ w2 (R1.out.kp q))
    clear CS e1 e2 e3
    go_upto_region 4 with fail
    refine wp_region_held_drew (S := fun w' => w'.cell? ⟨w.heap.size, 0, none⟩ = some (.int .i64 k) ∧ Kp w1 w') (by kernel_rfl) ?_ (fun hHeld0 => ?_)
    · (try dsimp only); exact KSp.out _ (by first | with_reducible exact kkw1 | ((repeat (first | with_reducible refine Kp.trans ?_ (Kp.drew _) | with_reducible refine Kp.trans ?_ (Kp.alloc _ _))); with_reducible exact kkw1))
    refine tkW (v := ?_) 0 pnA0 rfl (by kernel_rfl) (by kernel_rfl) (by kernel_rfl) (fun _ _ _ h => h) (by rfl) ?_ (by assumption) ?_
    rotate_left
    · intro w hSw; (try dsimp only at hSw); go_simp; (try with_reducible rfl)
    (try simp only [Act.put, pnA0, List.setIfInBounds_toArray, List.set_cons_zero, List.set_cons_succ])
    refine tkW (v := ?_) 1 pnA1 rfl (by kernel_rfl) (by kernel_rfl) (by kernel_rfl) (fun _ _ _ h => h) (by rfl) ?_ (by assumption) ?_
    rotate_left
    · intro w hSw; (try dsimp only at hSw); go_simp; (try with_reducible rfl)
    (try simp only [Act.put, pnA1, List.setIfInBounds_toArray, List.set_cons_zero, List.set_cons_succ])
    refine tkW (v := ?_) 2 pnA2 rfl (by kernel_rfl) (by kernel_rfl) (by kernel_rfl) (fun _ _ _ h => h) (by rfl) ?_ (by assumption) ?_
    rotate_left
    · intro w hSw; (try dsimp only at hSw); go_simp; (try with_reducible rfl)
    (try simp only [Act.put, pnA2, List.setIfInBounds_toArray, List.set_cons_zero, List.set_cons_succ])
    refine tkW (v := ?_) 3 pnA3 rfl (by kernel_rfl) (by kernel_rfl) (by kernel_rfl) (fun _ _ _ h => h) (by rfl) ?_ (by assumption) ?_
    rotate_left
    · intro w hSw; (try dsimp only at hSw); go_simp; (try with_reducible rfl)
    (try simp only [Act.put, pnA3, List.setIfInBounds_toArray, List.set_cons_zero, List.set_cons_succ])
    refine tkW (v := ?_) 4 pnA4 rfl (by kernel_rfl) (by kernel_rfl) (by kernel_rfl) (fun _ _ _ h => h) (by rfl) ?_ (by assumption) ?_
    rotate_left
    · intro w hSw; (try dsimp only at hSw); go_simp; (try with_reducible rfl)
    (try simp only [Act.put, pnA4, List.setIfInBounds_toArray, List.set_cons_zero, List.set_cons_succ])
    refine tkE 5 pnA5 rfl (by kernel_rfl) (fun K hK => ?_)
    go_simp
    (refine (CR.out _).mono ?_; rintro e w' ⟨rfl, rfl⟩)
    (try go_wp2_with fail)
    refine hK.out _ _ ?_ (fun hHeld1 => ?_)
    · (try dsimp only); exact KSp.out _ (by first | with_reducible exact kkw1 | ((repeat (first | with_reducible refine Kp.trans ?_ (Kp.drew _) | with_reducible refine Kp.trans ?_ (Kp.alloc _ _))); with_reducible exact kkw1))
    clear hK K hHeld0
    (try simp only [Act.put, pnA5, List.setIfInBounds_toArray, List.set_cons_zero, List.set_cons_succ])
    refine tkE 6 pnA6 rfl (by kernel_rfl) (fun K hK => ?_)
    go_simp
    (refine (CG.out _ (by first | with_reducible exact kkw1 | ((repeat (first | with_reducible refine Kp.trans ?_ (Kp.drew _) | with_reducible refine Kp.trans ?_ (Kp.alloc _ _))); with_reducible exact kkw1))).mono ?_; rintro e wg ⟨vg, rfl, Rg, kq1⟩; have kkwg : Kp w1 wg := Kp.trans (show Kp w1 _ from (by first | with_reducible exact kkw1 | ((repeat (first | with_reducible refine Kp.trans ?_ (Kp.drew _) | with_reducible refine Kp.trans ?_ (Kp.alloc _ _))); with_reducible exact kkw1))) kq1; have RG := Lib.hid Rg; clear Rg; clear kq1)
    (try go_wp2_with fail)
    refine hK.out _ _ ?_ (fun hHeld2 => ?_)
    · (try dsimp only); exact KSp.out _ (by first | with_reducible exact kkwg | ((repeat (first | with_reducible refine Kp.trans ?_ (Kp.drew _) | with_reducible refine Kp.trans ?_ (Kp.alloc _ _))); with_reducible exact kkwg))
    clear hK K hHeld1
    (try simp only [Act.put, pnA6, List.setIfInBounds_toArray, List.set_cons_zero, List.set_cons_succ])
    refine tkE 7 pnA7 rfl (by kernel_rfl) (fun K hK => ?_)
    go_simp
    (refine (CN.out _ _ (RG.out.kp (by first | with_reducible exact (Kp.refl wg) | ((repeat (first | with_reducible refine Kp.trans ?_ (Kp.drew _) | with_reducible refine Kp.trans ?_ (Kp.alloc _ _))); with_reducible exact (Kp.refl wg))))).mono ?_; rintro e wu ⟨vu, rfl, Ru, kq1⟩; have kkwu : Kp w1 wu := Kp.trans (show Kp w1 _ from (by first | with_reducible exact kkwg | ((repeat (first | with_reducible refine Kp.trans ?_ (Kp.drew _) | with_reducible refine Kp.trans ?_ (Kp.alloc _ _))); with_reducible exact kkwg))) kq1; have RU := Lib.hid Ru; clear Ru; clear kq1)
    (try go_wp2_with fail)
    refine hK.out _ _ ?_ (fun hHeld3 => ?_)
    · (try dsimp only); exact KSp.out _ (by first | with_reducible exact kkwu | ((repeat (first | with_reducible refine Kp.trans ?_ (Kp.drew _) | with_reducible refine Kp.trans ?_ (Kp.alloc _ _))); with_reducible exact kkwu))
    clear hK K hHeld2
    (try simp only [Act.put, pnA7, List.setIfInBounds_toArray, List.set_cons_zero, List.set_cons_succ])
    refine tkW (v := ?_) 8 pnA8 rfl (by kernel_rfl) (by kernel_rfl) (by kernel_rfl) (fun _ _ _ h => h) (by rfl) ?_ (by assumption) ?_
    rotate_left
    · intro w hSw; (try dsimp only at hSw); go_simp; (try with_reducible rfl)
    (try simp only [Act.put, pnA8, List.setIfInBounds_toArray, List.set_cons_zero, List.set_cons_succ])
    refine wpAnyH_done (by kernel_rfl) ?_ _
    obtain ⟨e5, _⟩ := KSp.out wu kkwu
    have CE1 := Lib.hid (CE.out vu wu RU.out)
    go_wp2_with fail
    refine CE1.out.mono ?_
    rintro e w5 ⟨v5, rfl, R5, kk⟩
    have KU := Lib.hid (show Kp w w5 from KB.out.trans (K1.out.trans (kkwu.trans kk)))
    have RU5 := Lib.hid (RU.out.kp kk)
    have CA1 := Lib.hid (CA.out vu w5 RU5.out)
    clear kk R5 CE1 e0 e5
    cases be with
    | true =>
      obtain rfl := (if_pos rfl).symm.trans HE.out
      obtain rfl := (if_pos rfl).symm.trans HS.out
      clear HE HS
      go_wp2_with fail
      refine CA1.out.mono ?_
      rintro e w6 ⟨v6, rfl, R6, kk⟩
      have RR := Lib.hid R6
      have KF := Lib.hid (KU.out.trans kk)
      clear R6 kk CA1
      go_wp2
      refine bodyPost_ret (results_tmp2 rfl _ _ _) rfl ?_
      exact ⟨_, rfl, RR.out, KF.out⟩
    | false =>
      obtain rfl := (if_neg (show ¬ (false = true) by decide)).symm.trans HE.out
      obtain rfl := (if_neg (show ¬ (false = true) by decide)).symm.trans HS.out
      clear HE HS
      go_wp2
      refine bodyPost_ret (results_tmp2 rfl _ _ _) rfl ?_
      exact ⟨_, rfl, rnil_at _, KU.out⟩
  · rw [if_neg he, if_neg he]
    have qe := qn er he
    clear qn
    go_enter Tryz.func11, Tryz.ntmps11
    go_wp2_with fail
    rw [← HVb.out]
    obtain ⟨e0, e1, e2, e3, _⟩ := KSb.out V3 (Kp.refl _)
    go_wp2_with fail
    refine (CS.out _).mono ?_
    rintro e w1 ⟨v1, rfl, o1, kk⟩
    have K1 := Lib.hid kk
    have R1 := Lib.hid (runsAt_own o1)
    obtain ⟨qa, qc, rfl⟩ := own_slice o1
    clear kk o1 e0 e1 e2 e3
    obtain ⟨e0, e1, e2, e3, _⟩ := KSb.out w1 K1.out
    go_wp2
    refine bodyPost_ret (results_tmp2 rfl _ _ _) rfl ?_
    exact ⟨_, rfl, rnil_at _, KB.out.trans K1.out⟩
end Go.Proofs.YtinpglfclbnhlaaGreatDoor
