/-
  Contracts of package sets: Minus.
-/
import Derived.Test.YtgaadakhkjfbnaaSetsB
import Derived.Test.YtgaadakhkjfbnaaSetsN
namespace Go.Proofs.Ytgaadakhkjfbnaa
open Go.RowKit
set_option linter.unusedVariables false
set_option linter.unusedSimpArgs false
/-- a box of a run -/
structure Box (w : World) (b : Nat) (x y : Int) : Prop where
  c0 : w.cell? ⟨b, 0, none⟩ = some (.int .i64 x)
  c1 : w.cell? ⟨b, 1, none⟩ = some (.int .i64 y)
  f : w.frozen? ⟨b, 0, none⟩ = false
  lt : b < w.heap.size
theorem Box.kp {w w' : World} {b : Nat} {x y : Int} (h : Box w b x y) (k : Kp w w') : Box w' b x y :=
  ⟨(k.cell (p := ⟨b, 0, none⟩) h.lt).trans h.c0, (k.cell (p := ⟨b, 1, none⟩) h.lt).trans h.c1, (k.frozen (p := ⟨b, 0, none⟩) h.lt).trans h.f, Nat.lt_of_lt_of_le h.lt k.size⟩
theorem Box.grown {w w' : World} {b : Nat} {x y : Int} {row : Option Nat} (h : Box w b x y) (g : w.grownBy w' row) (hn : ∀ j, row = some j → j ≠ b) : Box w' b x y :=
  ⟨(grown_cell g h.lt hn).trans h.c0, (grown_cell g h.lt hn).trans h.c1, (grown_frozen g h.lt hn).trans h.f, Nat.lt_of_lt_of_le h.lt g.size⟩
theorem Box.set {w : World} {b : Nat} {x y : Int} (h : Box w b x y) (z : Int) : Box (w.setCell ⟨b, 0, none⟩ (.int .i64 z)) b z y :=
  ⟨World.cell?_setCell_same' _ _ _ (by rw [h.c0]; rfl), by rw [World.cell?_setCell_other _ _ _ _ (by simp)]; exact h.c1, by rw [World.frozen?_setCell]; exact h.f, by have := h.lt; simp [World.setCell]; omega⟩
theorem box_new (w : World) (x y : Int) (t : TypeId) : Box (w.alloc (.cells #[.int .i64 x, .int .i64 y] t)) w.heap.size x y :=
  ⟨by simp, by simp, by rw [show (w.alloc _).frozen? _ = w.frozen? _ from RowKit.frozen?_alloc_cells _ _ _ _]; simp [World.frozen?], by simp⟩
set_option maxHeartbeats 8000000 in
set_option maxRecDepth 100000 in
theorem minus_any (v u : Value) (l m : List R) (w : World) (hv : RunsAt w v l) (hu : RunsAt w u m) (hl : I64R l) (hm : I64R m) (hn : l.length ≤ 1000000) (hn2 : m.length ≤ 1000000) :
    Calls Try.prog 42 #[v, u] w fun e w' => ∃ v' : Value, e = .returned v' ∧ w'.ownsRow w.heap.size 35 2 v' (diffR l m).length (cellsR (diffR l m)) ∧ Kp w w' := by
  obtain ⟨i0, hi, hz0, hz1, hz2⟩ := info_parts infoR
  have mx := mixedS
  have C1 := Lib.hid (fun w' (k : Kp w w') => make_any v l w' (hv.kp k) hl hn)
  have C2 := Lib.hid (fun w' (k : Kp w w') => make_any u m w' (hu.kp k) hm hn2)
  have nlA := nf_len l
  have nlB := nf_len m
  have SA := Lib.hid (nf_sane l)
  have SB := Lib.hid (nf_sane m)
  have FIN := Lib.hid (show ∀ out, sane out → (∀ n, memR out n ↔ memR (nf l) n ∧ ¬ memR (nf m) n) → out = diffR l m from fun out h1 h2 => sane_ext h1 (diffR_sane l m) (fun n => by rw [h2, diffR_mem, nf_mem, nf_mem]))
  have lA : (nf l).length ≤ 1000000 := by omega
  have lB : (nf m).length ≤ 1000000 := by omega
  clear hv hu hl hm nlA nlB hn hn2
  generalize nf l = A at *
  generalize nf m = B at *
  generalize diffR l m = RES at *
  go_enter Try.func42, Try.ntmps42
  go_wp2
  go_step3
  go_wp2_with fail
  refine (C1.out _ (Kp.refl _)).mono ?_
  rintro e w1 ⟨v1, rfl, own1, k2⟩
  have C3 := Lib.hid (C2.out w1 k2)
  clear C2
  go_wp2_with fail
  refine (C3.out).mono ?_
  rintro e w2 ⟨v2, rfl, own2, kk2⟩
  have R1 := Lib.hid (runsAt_own own1)
  have K2 := Lib.hid (k2.trans kk2)
  have R2 := Lib.hid (runsAt_own own2)
  have R1' := Lib.hid (R1.out.kp kk2)
  obtain ⟨ad1, c1, rfl⟩ := R1.out.slice
  obtain ⟨ad2, c2, rfl⟩ := R2.out.slice
  clear own1 own2 kk2 k2 C1 C3 R1
  go_wp2
  go_step3
  go_wp2
  go_loopw [5, 6, 8, 15] (fun u5 u6 u8 u15 wr => ∃ (i a : Nat) (out : List R), i ≤ A.length ∧ a ≤ B.length ∧ u6 = .int .i64 a ∧ u15 = .int .i64 i ∧ Hid (NO A B i a out) ∧ out.length ≤ i + a ∧
    Hid (wr.ownsRow w2.heap.size 35 2 u5 out.length (cellsR out)) ∧ Hid (Kp w2 wr)) (fun _ _ _ u15 _ => A.length - (intOf u15).toNat)
  case atStart => exact ⟨0, 0, [], by omega, by omega, rfl, rfl, Lib.hid NO.start, by simp, Lib.hid (World.ownsRow_nil _ _ _ _), Lib.hid (Kp.refl _)⟩
  case round =>
    obtain ⟨wo, hwo⟩ : ∃ x : World, x = wr := ⟨wr, rfl⟩
    subst hwo
    obtain ⟨i, a, out, hiA, haB, rfl, rfl, NOO, hlen, O, K3⟩ := hrel
    by_cases hlt : i < A.length
    · rcases R1'.out with ⟨_, _, _, e⟩ | ⟨b1, off1, cap1, ev, hc, hm, hx⟩
      · rw [e] at hlt; simp at hlt
      cases ev
      obtain ⟨d1, d2⟩ := rd_at hx K3.out i hlt
      clear hx hc hm
      obtain ⟨rl, rh, ee⟩ : ∃ x y, at_ A i = (x, y) := ⟨_, _, rfl⟩
      rw [ee] at d1 d2
      simp only at d1 d2
      have EA := Lib.hid ee
      clear ee
      have z0 : (0 : Int) ≤ (i : Int) := by omega
      have z1 : (i : Int) < (A.length : Int) := by omega
      have hsz := K3.out.size
      have INN := Lib.hid (NOO.out.inner SA.out hlt)
      rw [EA.out] at INN
      have OA := okI SA.out hlt
      rw [EA.out] at OA
      obtain ⟨oa1, oa2, oa3⟩ := OA
      simp only at oa1 oa2 oa3
      go_wp2
      go_loopw [5, 6] (fun u5 u6 wq => ∃ (a' : Nat) (x : Int) (out' : List R), a' ≤ B.length ∧ u6 = .int .i64 a' ∧ Hid (NI A B i a' x out') ∧ out'.length ≤ i + a' ∧ Hid (wq.ownsRow w2.heap.size 35 2 u5 out'.length (cellsR out')) ∧ Hid (Kp w2 wq) ∧
        Hid (Box wq wo.heap.size x rh) ∧ Hid (∀ j, u5.ownBlock = some j → j ≠ wo.heap.size)) (fun _ u6 _ => B.length - (intOf u6).toNat)
      case atStart => exact ⟨a, rl, out, haB, rfl, INN, hlen, Lib.hid (O.out.alloc _), Lib.hid (K3.out.trans (Kp.alloc _ _)), Lib.hid (box_new _ _ _ _), Lib.hid (fun j hj => by have := (O.out.lt j hj).2; omega)⟩
      case round =>
        obtain ⟨wq, hwq⟩ : ∃ x : World, x = wr := ⟨wr, rfl⟩
        subst hwq
        clear d1 d2 INN NOO O hlen haB
        obtain ⟨a', x, out', haB, rfl, INN, hlen, O, K4, BX, NE⟩ := hrel
        have xx1 := INN.out.x1
        have xx2 := INN.out.x2
        rw [EA.out] at xx1 xx2
        simp only at xx1 xx2
        have REST := Lib.hid (fun c => INN.out.rest SA.out SB.out hlt c)
        rw [EA.out] at REST
        simp only at REST
        obtain ⟨x0, x1, x2, x3⟩ := BX.out
        have hsq := K4.out.size
        by_cases hla : a' < B.length
        · rcases R2.out with ⟨_, _, _, e⟩ | ⟨b2, off2, cap2, ev, hc, hm, hx⟩
          · rw [e] at hla; simp at hla
          cases ev
          obtain ⟨d1, d2⟩ := rd_at hx K4.out a' hla
          have RD := Lib.hid (fun w' (kk : Kp w2 w') => rd_at hx kk a' hla)
          clear hx hc hm
          have CUT := Lib.hid (INN.out.cut SA.out SB.out hlt hla)
          have OB := okI SB.out hla
          have LATE := Lib.hid (fun (c : rh < (at_ B a').1) => REST.out (fun j hj1 hj2 => by
            by_cases e : j = a'
            · subst e; exact c
            · have := gapI SB.out (show a' < j by omega) hj2; have := OB.1; omega))
          have GONE := Lib.hid (fun y out'' => INN.out.gone (y := y) (out' := out''))
          have NEXT := Lib.hid (fun y out'' => INN.out.next (y := y) (out' := out''))
          obtain ⟨bl, bh, ee⟩ : ∃ x y, at_ B a' = (x, y) := ⟨_, _, rfl⟩
          rw [ee] at d1 d2 CUT LATE NEXT OB RD
          rw [EA.out] at CUT GONE NEXT
          simp only at d1 d2 CUT LATE NEXT GONE RD
          obtain ⟨ob1, ob2, ob3⟩ := OB
          simp only at ob1 ob2 ob3
          clear ee INN REST
          have y0 : (0 : Int) ≤ (a' : Int) := by omega
          have y1 : (a' : Int) < (B.length : Int) := by omega
          have g0 : decide ((a' : Int) < (B.length : Int)) = true := decide_eq_true y1
          by_cases c1 : bl ≤ rh
          · have q1 : decide (bl ≤ rh) = true := decide_eq_true c1
            go_wp2_with fail
            go_quiet (fail)
            clear x0 x1 x2 x3 d1 d2
            have KQ0 := Lib.hid (Kp.drewN wq nq)
            have wb1 : IntKind.i64.wrap (bl - 1) = bl - 1 := by rw [IntKind.wrap_i64]; omega
            have wb2 : IntKind.i64.wrap (bh + 1) = bh + 1 := by rw [IntKind.wrap_i64]; omega
            have KS := Lib.hid (fun w' (kk : Kp wq w') => (show w'.cell? ⟨wo.heap.size, 0, none⟩ = some (.int .i64 x) ∧ w'.cell? ⟨b2, off2 + a' * 2, none⟩ = some (.int .i64 bl) from
              ⟨(BX.out.kp kk).c0, (RD.out _ (K4.out.trans kk)).1⟩))
            have KG := Lib.hid (fun ws w' (kk : Kp wq ws) (g : ws.grownBy w' u5.ownBlock) => (show (w'.cell? ⟨wo.heap.size, 0, none⟩ = some (.int .i64 x) ∧ w'.cell? ⟨b2, off2 + a' * 2, none⟩ = some (.int .i64 bl)) ∧ (Kp w2 w' ∧ Box w' wo.heap.size x rh) from
              have k5 : Kp w2 w' := Kp.grown (K4.out.trans kk) g (fun j hj => (O.out.lt j hj).1)
              have b5 := (BX.out.kp kk).grown g NE.out
              ⟨⟨b5.c0, (RD.out _ k5).1⟩, k5, b5⟩))
            generalize wq.drewN nq = wx at KQ0 ⊢
            obtain ⟨x0, d1⟩ := KS.out _ KQ0.out
            go_upto_if 42 with (go_quiet (fail))
            clear x0 d1
            have KQ := Lib.hid (KQ0.out.trans (Kp.drewN wx nq))
            have O2 := Lib.hid (own_kp O.out KQ.out)
            have BX2 := Lib.hid (BX.out.kp KQ.out)
            generalize wx.drewN nq = wy at KQ O2 BX2 ⊢
            have hsy := Nat.le_trans hsq KQ.out.size
            clear KQ0 LATE
            go_cut [5] from 42 to 54 (fun v5 w' => ∃ out'' : List R, Hid (out'' = if x < bl then out' ++ [(x, bl - 1)] else out') ∧
              Hid (w'.ownsRow w2.heap.size 35 2 v5 out''.length (cellsR out'')) ∧ Hid (∀ j, v5.ownBlock = some j → j ≠ wo.heap.size) ∧ Hid (Box w' wo.heap.size x rh) ∧ Hid (Kp w2 w'))
            case first =>
              by_cases c2 : x < bl
              · have q2 : decide (x < bl) = true := decide_eq_true c2
                obtain ⟨x0, d1⟩ := KS.out _ KQ.out
                have xsy := BX2.out.lt
                go_wp2_with fail
                go_region_held3 (fun w' => w'.cell? ⟨wo.heap.size, 0, none⟩ = some (.int .i64 x) ∧ w'.cell? ⟨b2, off2 + a' * 2, none⟩ = some (.int .i64 bl))
                  (first | assumption | exact KS.out _ (KQ.out.trans (by first | exact Kp.drew _ | exact Kp.drewN _ _ | exact (Kp.drew _).trans (Kp.alloc _ _) | exact (Kp.drewN _ _).trans (Kp.alloc _ _))))
                  (first | (refine step_append_lies _ rfl (.tmp 43) (.tmp 53) 22 rfl w2.heap.size 35 i0 (.agg #[.int .i64 0, .int .i64 0]) 2 16 Try.underlying22 hi hz0 hz1 hz2 rfl (by decide) u5 out'.length (cellsR out') (by simp [Act.eval, Act.put]) (World.ownsRow.alloc O2.out _) ⟨wy.heap.size, 0, none⟩ 1 1 [.int .i64 x, .int .i64 (bl - 1)] (by simp [Act.eval, Act.put]) rfl (cell_one_at _ _ _ _) (by intro u hu; simp at hu; rcases hu with rfl | rfl <;> rfl) (by decide) (by unfold maxLen; omega) (by omega) (by simp; omega) _ rfl ?_; intro g4 cap4 w4 hown4 hgrow4 hat4 hlt4; have kg4 := KG.out _ _ (KQ.out.trans ((Kp.drew _).trans (Kp.alloc _ _))) hgrow4; have kg5 := kg4.1; have kg6 := kg4.2))
                all_goals go_wp2
                all_goals go_meet
                all_goals exact ⟨out' ++ [(x, bl - 1)], Lib.hid (by rw [if_pos c2]), Lib.hid (own_snoc hown4), Lib.hid (fun j hj => by
                  have e := Option.some.inj hj
                  rcases hat4 with h | h
                  · exact NE.out j (by rw [h]; exact hj)
                  · have e2 : g4 = j := e
                    rw [← e2, h]
                    simp
                    omega), Lib.hid kg6.2, Lib.hid kg6.1⟩
              · have q2 : decide (x < bl) = false := decide_eq_false c2
                go_wp2
                go_meet
                case rel => exact ⟨out', Lib.hid (by rw [if_neg (by omega)]), O2, NE, BX2, Lib.hid (K4.out.trans KQ.out)⟩
            case rest =>
              obtain ⟨o3, G, O3, NE3, BX3, K5⟩ := hcut
              obtain ⟨o4, e4, s4, m4, g4, l4⟩ := CUT.out c1
              obtain rfl : o3 = o4 := by rw [G.out, e4]
              clear e4 G CUT O2 BX2 KS KG KQ O BX NE
              have FG := Lib.hid (fun (c : rh < max x (bh + 1)) => GONE.out _ o3 c s4 m4 g4)
              have FN := Lib.hid (fun (c : max x (bh + 1) ≤ rh) => NEXT.out _ o3 c (by omega) (by omega) s4 m4 g4)
              clear s4 m4 g4 GONE NEXT
              obtain ⟨x0, x1, x2, x3⟩ := BX3.out
              obtain ⟨d1, d2⟩ := RD.out _ K5.out
              have KZ := Lib.hid (fun n => K5.out.trans (Kp.drewN _ n))
              go_wp2_with fail
              go_region
              clear x0 x1 x2 x3 d1 d2 KZ
              have BX4 := Lib.hid (show Box (World.drew (World.setCell _ ⟨wo.heap.size, 0, none⟩ (.int .i64 (max x (bh + 1))))) wo.heap.size (max x (bh + 1)) rh from (BX3.out.set (max x (bh + 1))).kp (Kp.drew _))
              have O4 := Lib.hid (own_kp (ownsRow_setCell_other O3.out (a := ⟨wo.heap.size, 0, none⟩) (fun e => NE3.out _ e rfl) (.int .i64 (max x (bh + 1)))) (Kp.drew _))
              have K6 := Lib.hid ((Below.setCell (p := ⟨wo.heap.size, 0, none⟩) K5.out hsz (.int .i64 (max x (bh + 1)))).trans (Below.mono (Kp.drew _) (by have := K5.out.size; simp [World.setCell]; omega)))
              generalize World.drew (World.setCell _ ⟨wo.heap.size, 0, none⟩ (.int .i64 (max x (bh + 1)))) = wz at BX4 O4 K6 ⊢
              obtain ⟨x0, x1, x2, x3⟩ := BX4.out
              clear O3 BX3 K5
              by_cases c3 : rh < max x (bh + 1)
              · have q3 : decide (rh < max x (bh + 1)) = true := decide_eq_true c3
                have F := Lib.hid (FG.out c3)
                go_wp2
                refine ⟨⟨i + 1, a', o3, by omega, by omega, rfl, by go_num, F, by omega, O4, K6⟩, by simp only [intOf]; omega⟩
              · have q3 : decide (rh < max x (bh + 1)) = false := decide_eq_false c3
                have F := Lib.hid (FN.out (by omega))
                go_wp2
                refine ⟨⟨a' + 1, max x (bh + 1), o3, by omega, by go_num, F, by omega, O4, K6, BX4, NE3⟩, by simp only [intOf]; omega⟩
          · have q1 : decide (bl ≤ rh) = false := decide_eq_false c1
            have F := Lib.hid (LATE.out (by omega))
            go_wp2_with fail
            go_quiet (fail)
            clear x0 x1 d1 d2 x2 x3
            have KQ := Lib.hid (Kp.drewN wq nq)
            have O2 := Lib.hid (own_kp O.out KQ.out)
            have BX2 := Lib.hid (BX.out.kp KQ.out)
            generalize wq.drewN nq = wx at KQ O2 BX2 ⊢
            obtain ⟨x0, x1, x2, x3⟩ := BX2.out
            have hsx := KQ.out.size
            go_wp2_with (at_builtin; refine wpList_app rfl (.tmp 70) (.tmp 72) 22 rfl w2.heap.size 35 i0 (.agg #[.int .i64 0, .int .i64 0]) 2 16 Try.underlying22 hi hz0 hz1 hz2 rfl (by decide) _ _ _ rfl (O2.out.alloc _) _ _ _ rfl (one_src _ _ _ _) rfl (by intro u hu; simp at hu; rcases hu with rfl | rfl <;> rfl) (by unfold maxLen; omega) (by omega) (by simp; omega) ?_; intro v4 w4 hown4 hgrow4 hat4)
            go_wp2
            refine ⟨⟨i + 1, a', out' ++ [(x, rh)], by omega, by omega, rfl, by go_num, F, by simp; omega, Lib.hid (own_snoc hown4), Lib.hid (Kp.grown ((K4.out.trans KQ.out).trans (Kp.alloc _ _)) hgrow4 (fun j hj => (O2.out.lt j hj).1))⟩, by simp only [intOf]; omega⟩
        · obtain rfl : a' = B.length := by omega
          have q0 : decide ((B.length : Int) < B.length) = false := by simp
          have F := Lib.hid (REST.out (fun j h1 h2 => by omega))
          go_wp2_with fail
          go_region
          clear x0 x1 x2 x3
          have KQ := Lib.hid (Kp.drew wq)
          have O2 := Lib.hid (own_kp O.out KQ.out)
          have BX2 := Lib.hid (BX.out.kp KQ.out)
          generalize wq.drew = wx at KQ O2 BX2 ⊢
          obtain ⟨x0, x1, x2, x3⟩ := BX2.out
          have hsx := KQ.out.size
          go_wp2_with (at_builtin; refine wpList_app rfl (.tmp 70) (.tmp 72) 22 rfl w2.heap.size 35 i0 (.agg #[.int .i64 0, .int .i64 0]) 2 16 Try.underlying22 hi hz0 hz1 hz2 rfl (by decide) _ _ _ rfl (O2.out.alloc _) _ _ _ rfl (one_src _ _ _ _) rfl (by intro u hu; simp at hu; rcases hu with rfl | rfl <;> rfl) (by unfold maxLen; omega) (by omega) (by simp; omega) ?_; intro v4 w4 hown4 hgrow4 hat4)
          go_wp2
          refine ⟨⟨i + 1, B.length, out' ++ [(x, rh)], by omega, by omega, rfl, by go_num, F, by simp; omega, Lib.hid (own_snoc hown4), Lib.hid (Kp.grown ((K4.out.trans KQ.out).trans (Kp.alloc _ _)) hgrow4 (fun j hj => (O2.out.lt j hj).1))⟩, by simp only [intOf]; omega⟩
    · obtain rfl : i = A.length := by omega
      have q0 : decide ((A.length : Int) < A.length) = false := by simp
      have E := FIN.out out NOO.out.s (fun n => NOO.out.done SA.out n)
      subst E
      go_wp2
      try rw [Exit.noGoto_ret]
      go_ret
      exact ⟨_, rfl, own_mono O.out K2.out.size, K2.out.trans K3.out⟩
end Go.Proofs.Ytgaadakhkjfbnaa
