/-
  Contracts of package sets: Meet, Clip.
-/
import Derived.Test.YtehpngppdcnohaaDoorSetsA
import Derived.Test.YtehpngppdcnohaaDoorSetsM
import Derived.Test.YtehpngppdcnohaaDoor4B
import Derived.Deep.RegionHeld3
namespace Go.Proofs.YtehpngppdcnohaaDoor
open Go.RowKit
set_option linter.unusedVariables false
set_option linter.unusedSimpArgs false
theorem mixedS : Tryd.prog.follows .mixedOrders = true := by kernel_rfl
theorem cell_one_at (w : World) (a b : Value) (t : TypeId) : ∀ j u, [a, b][j]? = some u → (w.drew.alloc (.cells #[a, b] t)).cell? ((⟨w.heap.size, 0, none⟩ : Addr).add j) = some u := by
  have h := cell_two_new w.drew a b t
  simpa using h
theorem at_ne {v v' : Value} {H X : Nat} (h : ∀ j, v.ownBlock = some j → j ≠ X) (hX : X < H) (a : v'.ownBlock = v.ownBlock ∨ v'.ownBlock = some H) : ∀ j, v'.ownBlock = some j → j ≠ X := by
  intro j hj
  rcases a with a | a
  · exact h j (by rw [← a]; exact hj)
  · rw [a] at hj; cases hj; omega
set_option maxHeartbeats 8000000 in
set_option maxRecDepth 100000 in
theorem meet_any (v u : Value) (l m : List R) (w : World) (hv : RunsAt w v l) (hu : RunsAt w u m) (hl : I64R l) (hm : I64R m) (hn : l.length ≤ 1000000) (hn2 : m.length ≤ 1000000) :
    Calls Tryd.prog 38 #[v, u] w fun e w' => ∃ v' : Value, e = .returned v' ∧ w'.ownsRow w.heap.size 58 2 v' (interR l m).length (cellsR (interR l m)) ∧ Kp w w' := by
  obtain ⟨i0, hi, hz0, hz1, hz2⟩ := info_parts infoR
  have mx := mixedS
  have C1 := Lib.hid (fun w' (k : Kp w w') => make_any v l w' (hv.kp k) hl hn)
  have C2 := Lib.hid (fun w' (k : Kp w w') => make_any u m w' (hu.kp k) hm hn2)
  have nlA := nf_len l
  have nlB := nf_len m
  have SA := Lib.hid (nf_sane l)
  have SB := Lib.hid (nf_sane m)
  have FIN := Lib.hid (show ∀ out, sane out → (∀ n, memR out n ↔ memR (nf l) n ∧ memR (nf m) n) → out = interR l m from fun out h1 h2 => sane_ext h1 (interR_sane l m) (fun n => by rw [h2, interR_mem, nf_mem, nf_mem]))
  have lA : (nf l).length ≤ 1000000 := by omega
  have lB : (nf m).length ≤ 1000000 := by omega
  clear hv hu hl hm nlA nlB hn hn2
  generalize nf l = A at *
  generalize nf m = B at *
  generalize interR l m = RES at *
  go_enter Tryd.func38, Tryd.ntmps38
  go_wp2
  go_step3
  go_wp2_with fail
  refine (C1.out _ (Kp.refl _)).mono ?_
  rintro e w1 ⟨v1, rfl, own1, k2⟩
  have C3 := Lib.hid (C2.out w1 k2)
  clear C2
  go_wp2_with fail
  refine (C3.out).mono ?_
  rintro e w2 ⟨v2, rfl, own2, kk2⟩
  have R1 := Lib.hid (runsAt_own own1)
  have K2 := Lib.hid (k2.trans kk2)
  have R2 := Lib.hid (runsAt_own own2)
  have R1' := Lib.hid (R1.out.kp kk2)
  obtain ⟨ad1, c1, rfl⟩ := R1.out.slice
  obtain ⟨ad2, c2, rfl⟩ := R2.out.slice
  clear own1 own2 kk2 k2 C1 C3 R1
  go_wp2
  go_step3
  go_wp2
  go_loopw [5, 6, 8, 15] (fun u5 u6 u8 u15 wr => ∃ (i a : Nat) (out : List R), i ≤ A.length ∧ a ≤ B.length ∧ u6 = .int .i64 a ∧ u15 = .int .i64 i ∧ Hid (MO A B i a out) ∧ out.length ≤ i + a ∧
    Hid (wr.ownsRow w2.heap.size 58 2 u5 out.length (cellsR out)) ∧ Hid (Kp w2 wr)) (fun _ _ _ u15 _ => A.length - (intOf u15).toNat)
  case atStart => exact ⟨0, 0, [], by omega, by omega, rfl, rfl, Lib.hid MO.start, by simp, Lib.hid (World.ownsRow_nil _ _ _ _), Lib.hid (Kp.refl _)⟩
  case round =>
    obtain ⟨wo, hwo⟩ : ∃ x : World, x = wr := ⟨wr, rfl⟩
    subst hwo
    obtain ⟨i, a, out, hiA, haB, rfl, rfl, MOO, hlen, O, K3⟩ := hrel
    by_cases hlt : i < A.length
    · rcases R1'.out with ⟨_, _, _, e⟩ | ⟨b1, off1, cap1, ev, hc, hm, hx⟩
      · rw [e] at hlt; simp at hlt
      cases ev
      obtain ⟨d1, d2⟩ := rd_at hx K3.out i hlt
      clear hx hc hm
      obtain ⟨rl, rh, ee⟩ : ∃ x y, at_ A i = (x, y) := ⟨_, _, rfl⟩
      rw [ee] at d1 d2
      simp only at d1 d2
      have EA := Lib.hid ee
      clear ee
      have z0 : (0 : Int) ≤ (i : Int) := by omega
      have z1 : (i : Int) < (A.length : Int) := by omega
      have hsz := K3.out.size
      have INN := Lib.hid (MOO.out.inner SA.out hlt)
      have OA := okI SA.out hlt
      rw [EA.out] at OA
      obtain ⟨oa1, oa2, oa3⟩ := OA
      simp only at oa1 oa2 oa3
      go_wp2
      go_loopw [5, 6] (fun u5 u6 wq => ∃ (a' : Nat) (out' : List R), a' ≤ B.length ∧ u6 = .int .i64 a' ∧ Hid (MI A B i a' out') ∧ out'.length ≤ i + a' ∧ Hid (wq.ownsRow w2.heap.size 58 2 u5 out'.length (cellsR out')) ∧ Hid (Kp w2 wq) ∧
        wq.cell? ⟨wo.heap.size, 0, none⟩ = some (.int .i64 rl) ∧ wq.cell? ⟨wo.heap.size, 1, none⟩ = some (.int .i64 rh) ∧ Hid (∀ j, u5.ownBlock = some j → j ≠ wo.heap.size) ∧ wo.heap.size < wq.heap.size) (fun _ u6 _ => B.length - (intOf u6).toNat)
      case atStart => exact ⟨a, out, haB, rfl, INN, hlen, Lib.hid (O.out.alloc _), Lib.hid (K3.out.trans (Kp.alloc _ _)), by simp, by simp, Lib.hid (fun j hj => by have := (O.out.lt j hj).2; omega), by simp⟩
      case round =>
        obtain ⟨wq, hwq⟩ : ∃ x : World, x = wr := ⟨wr, rfl⟩
        subst hwq
        clear d1 d2 INN MOO O hlen haB
        obtain ⟨a', out', haB, rfl, INN, hlen, O, K4, x0, x1, NE, xs⟩ := hrel
        by_cases hla : a' < B.length
        · rcases R2.out with ⟨_, _, _, e⟩ | ⟨b2, off2, cap2, ev, hc, hm, hx⟩
          · rw [e] at hla; simp at hla
          cases ev
          obtain ⟨d1, d2⟩ := rd_at hx K4.out a' hla
          have RD := Lib.hid (fun w' (kk : Kp w2 w') => rd_at hx kk a' hla)
          clear hx hc hm
          have PAST := Lib.hid (INN.out.past SA.out SB.out hlt hla)
          have PUT := Lib.hid (INN.out.put SA.out SB.out hlt hla)
          have SKIP := Lib.hid (INN.out.skip SA.out SB.out hlt hla)
          have NEXT := Lib.hid (fun out' => INN.out.next (out' := out') SA.out SB.out hlt hla)
          have OVER := Lib.hid (fun out' => INN.out.over (out' := out') SA.out SB.out hlt hla)
          have SO := Lib.hid INN.out.s
          have OB := okI SB.out hla
          obtain ⟨bl, bh, ee⟩ : ∃ x y, at_ B a' = (x, y) := ⟨_, _, rfl⟩
          rw [ee] at d1 d2 PAST PUT SKIP NEXT OVER OB RD
          rw [EA.out] at PAST PUT SKIP NEXT OVER
          simp only at d1 d2 PAST PUT SKIP NEXT OVER RD
          obtain ⟨ob1, ob2, ob3⟩ := OB
          simp only at ob1 ob2 ob3
          clear ee INN
          have y0 : (0 : Int) ≤ (a' : Int) := by omega
          have y1 : (a' : Int) < (B.length : Int) := by omega
          have hsq := K4.out.size
          have KS := Lib.hid (fun w' (kk : Kp wq w') => (show w'.cell? ⟨wo.heap.size, 0, none⟩ = some (.int .i64 rl) ∧ w'.cell? ⟨wo.heap.size, 1, none⟩ = some (.int .i64 rh) ∧ w'.cell? ⟨b2, off2 + a' * 2, none⟩ = some (.int .i64 bl) ∧ w'.cell? ⟨b2, off2 + a' * 2 + 1, none⟩ = some (.int .i64 bh) from
            ⟨(kk.cell (p := ⟨wo.heap.size, 0, none⟩) xs).trans x0, (kk.cell (p := ⟨wo.heap.size, 1, none⟩) xs).trans x1, RD.out _ (K4.out.trans kk)⟩))
          have KG := Lib.hid (fun ws w' (kk : Kp wq ws) (g : ws.grownBy w' u5.ownBlock) => (show (w'.cell? ⟨wo.heap.size, 0, none⟩ = some (.int .i64 rl) ∧ w'.cell? ⟨wo.heap.size, 1, none⟩ = some (.int .i64 rh) ∧ w'.cell? ⟨b2, off2 + a' * 2, none⟩ = some (.int .i64 bl) ∧ w'.cell? ⟨b2, off2 + a' * 2 + 1, none⟩ = some (.int .i64 bh)) ∧ Kp w2 w' from
            have k5 : Kp w2 w' := Kp.grown (K4.out.trans kk) g (fun j hj => (O.out.lt j hj).1)
            have xs2 : wo.heap.size < ws.heap.size := Nat.lt_of_lt_of_le xs kk.size
            ⟨⟨(grown_cell g xs2 NE.out).trans ((kk.cell (p := ⟨wo.heap.size, 0, none⟩) xs).trans x0), (grown_cell g xs2 NE.out).trans ((kk.cell (p := ⟨wo.heap.size, 1, none⟩) xs).trans x1), RD.out _ k5⟩, k5⟩))
          by_cases c1 : rh < bl
          · have q1 : decide (rh < bl) = true := decide_eq_true c1
            have F := Lib.hid (PAST.out c1)
            go_wp2_with fail
            go_quiet (fail)
            go_wp2
            refine ⟨⟨i + 1, a', out', by omega, by omega, rfl, by go_num, F, by omega, O, Lib.hid (K4.out.trans (by first | exact Kp.drew _ | exact Kp.drewN _ _))⟩, by simp only [intOf]; omega⟩
          · have q1 : decide (rh < bl) = false := decide_eq_false c1
            have c1' : bl ≤ rh := by omega
            go_wp2_with fail
            go_quiet (fail)
            clear x0 x1 d1 d2
            have KQ0 := Lib.hid (Kp.drewN wq nq)
            generalize wq.drewN nq = wx at KQ0 ⊢
            obtain ⟨x0, x1, d1, d2⟩ := KS.out _ KQ0.out
            go_upto_if 40 with (go_quiet (fail))
            clear x0 x1 d1 d2
            have KQ := Lib.hid (KQ0.out.trans (Kp.drewN wx nq))
            have O2 := Lib.hid (own_kp O.out KQ.out)
            generalize wx.drewN nq = wy at KQ O2 ⊢
            have hsy := Nat.le_trans hsq KQ.out.size
            clear KQ0 PAST
            go_cut [5] from 40 to 60 (fun v5 w' => ∃ out'' : List R, Hid (sane out'') ∧ Hid (∀ n, memR out'' n ↔ (∃ k, k < i ∧ inn A k n ∧ memR B n) ∨ (inn A i n ∧ ∃ j, j < a' + 1 ∧ inn B j n)) ∧ Hid (∀ q ∈ out'', q ∈ out' ∨ (q.2 ≤ bh ∧ q.2 ≤ rh)) ∧ out''.length ≤ out'.length + 1 ∧
              Hid (w'.ownsRow w2.heap.size 58 2 v5 out''.length (cellsR out'')) ∧ Hid (∀ j, v5.ownBlock = some j → j ≠ wo.heap.size) ∧ wo.heap.size < w'.heap.size ∧
              Hid ((w'.cell? ⟨wo.heap.size, 0, none⟩ = some (.int .i64 rl) ∧ w'.cell? ⟨wo.heap.size, 1, none⟩ = some (.int .i64 rh) ∧ w'.cell? ⟨b2, off2 + a' * 2, none⟩ = some (.int .i64 bl) ∧ w'.cell? ⟨b2, off2 + a' * 2 + 1, none⟩ = some (.int .i64 bh)) ∧ Kp w2 w'))
            case first =>
              by_cases c2 : rl ≤ bh
              · have q2 : decide (rl ≤ bh) = true := decide_eq_true c2
                obtain ⟨F1, F2⟩ := PUT.out c1' c2
                have FF1 := Lib.hid F1
                have FF2 := Lib.hid F2
                clear F1 F2 SKIP PUT
                obtain ⟨x0, x1, d1, d2⟩ := KS.out _ KQ.out
                have xsy : wo.heap.size < wy.heap.size := Nat.lt_of_lt_of_le xs KQ.out.size
                go_wp2_with fail
                go_region_held3 (fun w' => w'.cell? ⟨wo.heap.size, 0, none⟩ = some (.int .i64 rl) ∧ w'.cell? ⟨wo.heap.size, 1, none⟩ = some (.int .i64 rh) ∧ w'.cell? ⟨b2, off2 + a' * 2, none⟩ = some (.int .i64 bl) ∧ w'.cell? ⟨b2, off2 + a' * 2 + 1, none⟩ = some (.int .i64 bh))
                  (first | assumption | exact KS.out _ (KQ.out.trans (by first | exact Kp.drew _ | exact Kp.drewN _ _ | exact (Kp.drew _).trans (Kp.alloc _ _) | exact (Kp.drewN _ _).trans (Kp.alloc _ _))))
                  (first | (refine step_append_lies _ rfl (.tmp 41) (.tmp 59) 22 rfl w2.heap.size 58 i0 (.agg #[.int .i64 0, .int .i64 0]) 2 16 Tryd.underlying22 hi hz0 hz1 hz2 rfl (by decide) u5 out'.length (cellsR out') (by simp [Act.eval, Act.put]) (World.ownsRow.alloc O2.out _) ⟨wy.heap.size, 0, none⟩ 1 1 [.int .i64 (max rl bl), .int .i64 (min rh bh)] (by simp [Act.eval, Act.put]) rfl (cell_one_at _ _ _ _) (by intro u hu; simp at hu; rcases hu with rfl | rfl <;> rfl) (by decide) (by unfold maxLen; omega) (by omega) (by simp; omega) _ rfl ?_; intro g4 cap4 w4 hown4 hgrow4 hat4 hlt4; have kg4 := KG.out _ _ (KQ.out.trans ((Kp.drew _).trans (Kp.alloc _ _))) hgrow4; have kg5 := kg4.1; have kg6 := kg4.2))
                all_goals go_wp2
                all_goals go_meet
                all_goals exact ⟨out' ++ [(max rl bl, min rh bh)], FF1, FF2, Lib.hid (fun q hq => (List.mem_append.1 hq).imp id (fun h => by rw [List.mem_singleton] at h; subst h; exact ⟨by simp only; omega, by simp only; omega⟩)), by simp, Lib.hid (own_snoc hown4), Lib.hid (fun j hj => by
                  have e := Option.some.inj hj
                  rcases hat4 with h | h
                  · exact NE.out j (by rw [h]; exact hj)
                  · have e2 : g4 = j := e
                    rw [← e2, h]
                    simp
                    omega), (by have := hgrow4.size; simp at this; omega), Lib.hid kg4⟩
              · have q2 : decide (rl ≤ bh) = false := decide_eq_false c2
                go_wp2
                go_meet
                case rel => exact ⟨out', SO, Lib.hid (SKIP.out (by omega)), Lib.hid (fun q hq => .inl hq), by omega, O2, NE, Nat.lt_of_lt_of_le xs KQ.out.size, Lib.hid ⟨KS.out _ KQ.out, K4.out.trans KQ.out⟩⟩
            case rest =>
              obtain ⟨o3, G1, G2, G3, l3, O3, NE3, xs3, S3⟩ := hcut
              clear NE O2 KS KG SKIP PUT KQ O
              obtain ⟨x0, x1, d1, d2⟩ := S3.out.1
              by_cases c3 : rh < bh
              · have q3 : decide (rh < bh) = true := decide_eq_true c3
                have F := Lib.hid (OVER.out o3 c3 G1.out G2.out (fun q hq => (G3.out q hq).imp id (fun h => h.2)))
                go_wp2_with fail
                go_quiet (fail)
                go_wp2
                refine ⟨⟨i + 1, a', o3, by omega, by omega, rfl, by go_num, F, by omega, own_kp O3.out (by first | exact Kp.drew _ | exact Kp.drewN _ _), Lib.hid (S3.out.2.trans (by first | exact Kp.drew _ | exact Kp.drewN _ _))⟩, by simp only [intOf]; omega⟩
              · have q3 : decide (rh < bh) = false := decide_eq_false c3
                have F := Lib.hid (NEXT.out o3 (by omega) G1.out G2.out (fun q hq => (G3.out q hq).imp id (fun h => h.1)))
                go_wp2_with fail
                go_quiet (fail)
                go_wp2
                refine ⟨⟨a' + 1, o3, by omega, by go_num, F, by omega, own_kp O3.out (by first | exact Kp.drew _ | exact Kp.drewN _ _), Lib.hid (S3.out.2.trans (by first | exact Kp.drew _ | exact Kp.drewN _ _)), x0, x1, NE3, xs3⟩, by simp only [intOf]; omega⟩
        · obtain rfl : a' = B.length := by omega
          have q0 : decide ((B.length : Int) < B.length) = false := by simp
          have E := FIN.out out' INN.out.s (fun n => INN.out.done SA.out SB.out hlt n)
          subst E
          go_wp2
          try rw [Exit.noGoto_ret]
          go_ret
          exact ⟨_, rfl, own_mono O.out K2.out.size, K2.out.trans K4.out⟩
    · obtain rfl : i = A.length := by omega
      have q0 : decide ((A.length : Int) < A.length) = false := by simp
      have E := FIN.out out MOO.out.s (fun n => MOO.out.done SA.out n)
      subst E
      go_wp2
      try rw [Exit.noGoto_ret]
      go_ret
      exact ⟨_, rfl, own_mono O.out K2.out.size, K2.out.trans K3.out⟩
end Go.Proofs.YtehpngppdcnohaaDoor
