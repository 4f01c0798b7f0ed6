/-
  Contracts of the document's answer for layer 5: Meet.
-/
import Derived.Test.YtehpngppdcnohaaDoor5P
namespace Go.Proofs.YtehpngppdcnohaaDoor
open Go.RowKit
set_option linter.unusedVariables false
set_option linter.unusedSimpArgs false
set_option maxHeartbeats 8000000 in
set_option maxRecDepth 100000 in
theorem rmeet_any (v u : Value) (l m : List R) (w : World) (hv : RunsAt w v l) (hu : RunsAt w u m) (hl : I64R l) (hm : I64R m) (hn : l.length ≤ 2000) (hn2 : m.length ≤ 2000) :
    Calls Tryd.prog 132 #[v, u] w fun e w' => ∃ v' : Value, e = .returned v' ∧ RunsAt w' v' (interR l m) ∧ Kp w w' := by
  obtain ⟨i0, hi, hz0, hz1, hz2⟩ := info_parts infoR
  have mx := mixedS
  have C1 := Lib.hid (fun w' (k : Kp w w') => asR_any v l w' (hv.kp k) hl (by omega) w' (Kp.refl _))
  have C2 := Lib.hid (fun w' (k : Kp w w') => asR_any u m w' (hu.kp k) hm (by omega) w' (Kp.refl _))
  have lA : (nf l).length ≤ 2000 := by have := nf_len l; omega
  have lB : (nf m).length ≤ 2000 := by have := nf_len m; omega
  have FIN := Lib.hid (mtL_inter l m)
  have OKA := Lib.hid (sane_ok (nf_sane l))
  have OKB := Lib.hid (sane_ok (nf_sane m))
  clear hv hu hl hm hn hn2
  generalize nf l = A at *
  generalize nf m = B at *
  generalize interR l m = RES at *
  go_enter Tryd.func132, Tryd.ntmps132
  go_wp2_with fail
  refine (C1.out _ (Kp.refl _)).mono ?_
  rintro e w1 ⟨v1, rfl, R0, k2⟩
  have C3 := Lib.hid (C2.out w1 k2)
  clear C2
  go_wp2_with fail
  refine (C3.out).mono ?_
  rintro e w2 ⟨v2, rfl, R02, kk2⟩
  have K2 := Lib.hid (k2.trans kk2)
  have R2 := Lib.hid R02
  have R1 := Lib.hid (R0.kp kk2)
  obtain ⟨ad1, c1, rfl⟩ := R1.out.slice
  obtain ⟨ad2, c2, rfl⟩ := R2.out.slice
  clear R0 R02 kk2 k2 C1 C3
  go_wp2
  go_loopw [7, 8] (fun u7 u8 wr => ∃ i : Nat, i ≤ A.length ∧ u8 = .int .i64 i ∧ Hid (wr.ownsRow w2.heap.size 58 2 u7 (mtO A B i 0).length (cellsR (mtO A B i 0))) ∧ Hid (Kp w2 wr)) (fun _ u8 _ => A.length - (intOf u8).toNat)
  case atStart => exact ⟨0, Nat.zero_le _, rfl, Lib.hid (by rw [mtO_start]; exact World.ownsRow_nil _ _ _ _), Lib.hid (Kp.refl _)⟩
  case round =>
    obtain ⟨wo, hwo⟩ : ∃ x : World, x = wr := ⟨wr, rfl⟩
    subst hwo
    obtain ⟨i, hiA, rfl, O, K3⟩ := hrel
    by_cases hlt : i < A.length
    · have z0 : (0 : Int) ≤ (i : Int) := by omega
      have z1 : (i : Int) < (A.length : Int) := by omega
      have ROW := Lib.hid (mtO_row A B i hlt)
      go_wp2
      go_loopw [7, 9] (fun u7 u9 wq => ∃ k : Nat, k ≤ B.length ∧ u9 = .int .i64 k ∧ Hid (wq.ownsRow w2.heap.size 58 2 u7 (mtO A B i k).length (cellsR (mtO A B i k))) ∧ Hid (Kp w2 wq)) (fun _ u9 _ => B.length - (intOf u9).toNat)
      case atStart => exact ⟨0, Nat.zero_le _, rfl, O, K3⟩
      case round =>
        obtain ⟨wq, hwq⟩ : ∃ x : World, x = wr := ⟨wr, rfl⟩
        subst hwq
        clear O K3
        obtain ⟨k, hkB, rfl, O, K3⟩ := hrel
        by_cases hlk : k < B.length
        · rcases R1.out with ⟨_, _, _, e⟩ | ⟨b1, off1, cap1, ev, hc, hm, hx⟩
          · rw [e] at hlt; simp at hlt
          cases ev
          rcases R2.out with ⟨_, _, _, e⟩ | ⟨b2, off2, cap2, ev, hc2, hm2, hx2⟩
          · rw [e] at hlk; simp at hlk
          cases ev
          have RD := Lib.hid (fun w' (kk : Kp w2 w') => And.intro (rd_at hx kk i hlt) (rd_at hx2 kk k hlk))
          clear hx hc hm hx2 hc2 hm2
          obtain ⟨p1, p2, p3⟩ := OKA.out _ (at_mem hlt)
          obtain ⟨s1, s2, s3⟩ := OKB.out _ (at_mem hlk)
          have NX := Lib.hid (mtO_next A B i k hlk)
          have ml : (mtO A B i k).length ≤ 2000 * 2000 := mtO_len hlt hkB lA lB
          obtain ⟨al, ah, ea⟩ : ∃ x y, at_ A i = (x, y) := ⟨_, _, rfl⟩
          obtain ⟨bl, bh, eb⟩ : ∃ x y, at_ B k = (x, y) := ⟨_, _, rfl⟩
          rw [ea] at p1 p2 p3 NX RD
          rw [eb] at s1 s2 s3 NX RD
          simp only at p1 p2 p3 s1 s2 s3 RD
          clear ea eb
          have y0 : (0 : Int) ≤ (k : Int) := by omega
          have y1 : (k : Int) < (B.length : Int) := by omega
          have hsz := K3.out.size
          have KS := Lib.hid (fun w' (kk : Kp wq w') => RD.out _ (K3.out.trans kk))
          have KG := Lib.hid (fun ws w' (kk : Kp wq ws) (g : ws.grownBy w' u7.ownBlock) => (show ((w'.cell? ⟨b1, off1 + i * 2, none⟩ = some (.int .i64 al) ∧ w'.cell? ⟨b1, off1 + i * 2 + 1, none⟩ = some (.int .i64 ah)) ∧ (w'.cell? ⟨b2, off2 + k * 2, none⟩ = some (.int .i64 bl) ∧ w'.cell? ⟨b2, off2 + k * 2 + 1, none⟩ = some (.int .i64 bh))) ∧ Kp w2 w' from
            have k5 : Kp w2 w' := Kp.grown (K3.out.trans kk) g (fun j hj => (O.out.lt j hj).1)
            ⟨RD.out _ k5, k5⟩))
          obtain ⟨⟨d1, d2⟩, d3, d4⟩ := RD.out _ K3.out
          generalize mtO A B i k = M at *
          by_cases c : max al bl ≤ min ah bh
          · have q1 : decide (max al bl ≤ min ah bh) = true := decide_eq_true c
            have EN := Lib.hid (show ov (al, ah) (bl, bh) = [(max al bl, min ah bh)] by unfold ov; simp only; rw [if_pos c])
            clear c
            go_wp2_with fail
            go_quiet (fail)
            have KQ := Lib.hid (Kp.drewN wq nq)
            have O2 := Lib.hid (own_kp O.out KQ.out)
            generalize wq.drewN nq = wy at KQ O2 ⊢
            clear d1 d2 d3 d4
            obtain ⟨⟨d1, d2⟩, d3, d4⟩ := KS.out _ KQ.out
            have hsy := Nat.le_trans hsz KQ.out.size
            go_wp2_with fail
            go_region_held3 (fun w' => (w'.cell? ⟨b1, off1 + i * 2, none⟩ = some (.int .i64 al) ∧ w'.cell? ⟨b1, off1 + i * 2 + 1, none⟩ = some (.int .i64 ah)) ∧ (w'.cell? ⟨b2, off2 + k * 2, none⟩ = some (.int .i64 bl) ∧ w'.cell? ⟨b2, off2 + k * 2 + 1, none⟩ = some (.int .i64 bh)))
              (first | assumption | exact KS.out _ (KQ.out.trans (by first | exact Kp.drew _ | exact Kp.drewN _ _ | exact (Kp.drew _).trans (Kp.alloc _ _) | exact (Kp.drewN _ _).trans (Kp.alloc _ _))))
              (first | (refine step_append_lies _ rfl (.tmp 49) (.tmp 73) 22 rfl w2.heap.size 58 i0 (.agg #[.int .i64 0, .int .i64 0]) 2 16 Tryd.underlying22 hi hz0 hz1 hz2 rfl (by decide) u7 M.length (cellsR M) (by simp [Act.eval, Act.put]) (World.ownsRow.alloc O2.out _) ⟨wy.heap.size, 0, none⟩ 1 1 [.int .i64 (max al bl), .int .i64 (min ah bh)] (by simp [Act.eval, Act.put]) rfl (cell_one_at _ _ _ _) (by intro u hu; simp at hu; rcases hu with rfl | rfl <;> rfl) (by decide) (by unfold maxLen; omega) (by omega) (by simp; omega) _ rfl ?_; intro g4 cap4 w4 hown4 hgrow4 hat4 hlt4; have kg4 := KG.out _ _ (KQ.out.trans ((Kp.drew _).trans (Kp.alloc _ _))) hgrow4; have kg5 := kg4.1; have kg6 := kg4.2))
            all_goals go_wp2
            all_goals refine ⟨⟨k + 1, by omega, by go_num, Lib.hid (by rw [NX.out, EN.out]; exact own_snoc hown4), Lib.hid kg6⟩, by simp only [intOf]; omega⟩
          · have q1 : decide (max al bl ≤ min ah bh) = false := decide_eq_false c
            have EN := Lib.hid (show ov (al, ah) (bl, bh) = [] by unfold ov; simp only; rw [if_neg c])
            clear c
            go_wp2_with fail
            go_quiet (fail)
            go_wp2
            refine ⟨⟨k + 1, by omega, by go_num, Lib.hid (by rw [NX.out, EN.out, List.append_nil]; exact own_drewN O.out _), Lib.hid (K3.out.trans (Kp.drewN _ _))⟩, by simp only [intOf]; omega⟩
        · obtain rfl : k = B.length := by omega
          have q0 : decide ((B.length : Int) < B.length) = false := by simp
          have O2 := O.out
          rw [ROW.out] at O2
          have O3 := Lib.hid O2
          clear O O2
          go_wp2
          refine ⟨⟨i + 1, by omega, by go_num, O3, K3⟩, by simp only [intOf]; omega⟩
    · obtain rfl : i = A.length := by omega
      have q0 : decide ((A.length : Int) < A.length) = false := by simp
      have O2 := O.out
      rw [mtO_end, FIN.out] at O2
      have O3 := Lib.hid (runsAt_own O2)
      clear O O2
      go_wp2
      go_ret
      exact ⟨_, rfl, O3.out, K2.out.trans K3.out⟩
end Go.Proofs.YtehpngppdcnohaaDoor
