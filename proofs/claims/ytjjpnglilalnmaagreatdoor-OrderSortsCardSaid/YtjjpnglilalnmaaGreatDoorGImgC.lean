/-
  Joined: ImgQ, 5R, 5S, 5T, 5U, ImgR, ImgS, ImgT, L7A, ImgU.
-/
import Derived.Test.YtjjpnglilalnmaaGreatDoorGImgB
import Derived.Test.YtjjpnglilalnmaaGreatDoorGSetC
namespace Go.Proofs.YtjjpnglilalnmaaGreatDoor
set_option linter.unusedVariables false
set_option linter.unusedSimpArgs false
theorem runF_mem {r : R} {n : Int} : n ∈ runF r ↔ r.1 ≤ n ∧ n ≤ r.2 := by
  unfold runF upF
  simp only [List.mem_map, List.mem_range]
  constructor
  · rintro ⟨i, hi, rfl⟩; omega
  · rintro ⟨a, b⟩
    exact ⟨(n - r.1).toNat, by omega, by omega⟩
theorem nums_mem {l : List R} (h : ∀ r ∈ l, okR r) {n : Int} : n ∈ nums l ↔ memR l n := by
  unfold nums memR
  simp only [List.mem_flatMap, runF_mem]
  constructor
  · rintro ⟨r, hr, a, b⟩
    obtain ⟨o1, o2, o3⟩ := h r hr
    exact ⟨r, hr, a, b, by omega, by omega⟩
  · rintro ⟨r, hr, a, b, _⟩
    exact ⟨r, hr, a, b⟩
theorem nums_lt : ∀ {l : List R}, sane l → (nums l).Pairwise (fun a b => a < b) := by
  intro l
  induction l with
  | nil => intro _; exact List.Pairwise.nil
  | cons r t ih =>
    intro h
    rw [show nums (r :: t) = runF r ++ nums t by simp [nums]]
    refine List.pairwise_append.2 ⟨?_, ih (sane_tail h), ?_⟩
    · unfold runF upF
      refine List.Pairwise.map _ ?_ List.pairwise_lt_range
      intro a b hab
      omega
    · intro x hx y hy
      have g := sane_beyond h y ((nums_mem (sane_ok (sane_tail h))).1 hy)
      have := (runF_mem.1 hx).2
      omega
theorem sane_sing {l : List Int} (h : ∀ n ∈ l, -1099511627776 ≤ n ∧ n ≤ 1099511627776) (p : l.Pairwise (fun a b => a + 1 < b)) : sane (sing l) := by
  refine sane_pw.2 ⟨?_, ?_⟩
  · intro r hr
    unfold sing at hr
    simp only [List.mem_map] at hr
    obtain ⟨n, hn, rfl⟩ := hr
    have := h n hn
    exact ⟨Int.le_refl _, this.1, this.2⟩
  · unfold sing
    exact List.Pairwise.map _ (fun a b h => h) p
theorem fst_gap {k i j : Int} (k0 : k ≠ 0) (h : 0 ≤ i) (hij : i < j) (hj : j < cnt k) : fst k i + 1 < fst k j := by
  have n := unit_next h hij hj
  obtain ⟨a1, a2, a3, a4, a5⟩ := months h (show i < cnt k by omega) k0
  have m := mon_lt _ _ a1 a2
  omega
theorem lst_gap {k i j : Int} (k0 : k ≠ 0) (h : 0 ≤ i) (hij : i < j) (hj : j < cnt k) : lst k i + 1 < lst k j := by
  have n := unit_next h hij hj
  obtain ⟨a1, a2, a3, a4, a5⟩ := months (show 0 ≤ j by omega) hj k0
  have m := mon_lt _ _ a1 a2
  omega
theorem units_num {k : Int} {s : List R} {n : Int} (h : n ∈ nums (unitsR k s)) : 0 ≤ n ∧ n < cnt k ∧ memR s n := by
  have := (unitsR_mem k s n).1 ((nums_mem (sane_ok (unitsR_sane k s))).1 h)
  exact ⟨this.2.1, this.2.2, this.1⟩
theorem firs_sane {k : Int} (k0 : k ≠ 0) (s : List R) : sane (sing ((nums (unitsR k s)).map (firV k))) := by
  refine sane_sing ?_ ?_
  · intro n hn
    simp only [List.mem_map] at hn
    obtain ⟨i, _, rfl⟩ := hn
    have := firV_bd k i
    omega
  · refine List.pairwise_map.2 ((List.Pairwise.imp_of_mem ?_) (nums_lt (unitsR_sane k s)))
    intro a b ha hb hab
    obtain ⟨a1, a2, _⟩ := units_num ha
    obtain ⟨b1, b2, _⟩ := units_num hb
    rw [firV_in a1 a2, firV_in b1 b2]
    exact fst_gap k0 a1 hab b2
theorem lass_sane {k : Int} (k0 : k ≠ 0) (s : List R) : sane (sing ((nums (unitsR k s)).map (lasV k))) := by
  refine sane_sing ?_ ?_
  · intro n hn
    simp only [List.mem_map] at hn
    obtain ⟨i, _, rfl⟩ := hn
    have := lasV_bd k i
    omega
  · refine List.pairwise_map.2 ((List.Pairwise.imp_of_mem ?_) (nums_lt (unitsR_sane k s)))
    intro a b ha hb hab
    obtain ⟨a1, a2, _⟩ := units_num ha
    obtain ⟨b1, b2, _⟩ := units_num hb
    rw [lasV_in a1 a2, lasV_in b1 b2]
    exact lst_gap k0 a1 hab b2
/-- what the list of edges is, without bringing it to order -/
theorem edgR_fir (k : Int) (s : List R) : edgR (firV k) k s = if edgB k s = true then (if k = 0 then unitsR k s else sing ((nums (unitsR k s)).map (firV k))) else [] := by
  unfold edgR
  by_cases h : k = 0
  · rw [if_pos h, if_pos h]
  · rw [if_neg h, if_neg h, nf_of_sane (firs_sane h s)]
theorem edgR_las (k : Int) (s : List R) : edgR (lasV k) k s = if edgB k s = true then (if k = 0 then unitsR k s else sing ((nums (unitsR k s)).map (lasV k))) else [] := by
  unfold edgR
  by_cases h : k = 0
  · rw [if_pos h, if_pos h]
  · rw [if_neg h, if_neg h, nf_of_sane (lass_sane h s)]
theorem edgR_fsane (k : Int) (s : List R) : sane (edgR (firV k) k s) := by
  unfold edgR
  split
  · split
    · exact unitsR_sane k s
    · exact nf_sane _
  · exact trivial
theorem edgR_lsane (k : Int) (s : List R) : sane (edgR (lasV k) k s) := by
  unfold edgR
  split
  · split
    · exact unitsR_sane k s
    · exact nf_sane _
  · exact trivial
theorem edgR_len (V : Int → Int) (k : Int) (s : List R) : (edgR V k s).length ≤ 400 := by
  unfold edgR edgB
  by_cases h : k = 0
  · simp only [if_pos h]
    split
    · rename_i g; exact of_decide_eq_true g
    · simp
  · simp only [if_neg h]
    split
    · rename_i g
      have g := of_decide_eq_true g
      have := nf_len (sing ((nums (unitsR k s)).map V))
      rw [sing_len, List.length_map] at this
      omega
    · simp
theorem insR_sane (k lo hi' : Int) : sane (insR k lo hi') := by
  unfold insR
  split
  · exact nf_sane _
  · exact trivial
theorem touR_sane (k lo hi' : Int) : sane (touR k lo hi') := by
  unfold touR
  split
  · rename_i h
    unfold thB at h
    simp only [Bool.and_eq_true, decide_eq_true_eq] at h
    have b1 := ofV_bd k (max lo 0)
    have b2 := ofV_bd k (min hi' 3652424)
    have m : ofV k (max lo 0) ≤ ofV k (min hi' 3652424) := by
      obtain ⟨u1, u2, u3, u4⟩ := unum_ok h.2
      have e2 : ofV k (min hi' 3652424) = unum k (min hi' 3652424) := by unfold ofV; rw [if_pos h.2]
      rcases Bool.eq_false_or_eq_true (okO k (max lo 0)) with o | o
      · obtain ⟨v1, v2, v3, v4⟩ := unum_ok o
        have e1 : ofV k (max lo 0) = unum k (max lo 0) := by unfold ofV; rw [if_pos o]
        rw [e1, e2]
        rcases Int.lt_or_le (unum k (min hi' 3652424)) (unum k (max lo 0)) with c | c
        · have := unit_next (k := k) u1 c v2
          omega
        · exact c
      · have e1 : ofV k (max lo 0) = 0 := by unfold ofV; rw [o]; rfl
        omega
    exact sane_cons ⟨m, by simp only; omega, by simp only; omega⟩ (by intro s t h; cases h) trivial
  · exact trivial
end Go.Proofs.YtjjpnglilalnmaaGreatDoor

namespace Go.Proofs.YtjjpnglilalnmaaGreatDoor
open Go.RowKit
set_option linter.unusedVariables false
set_option linter.unusedSimpArgs false
end Go.Proofs.YtjjpnglilalnmaaGreatDoor

namespace Go.Proofs.YtjjpnglilalnmaaGreatDoor
open Go.RowKit
set_option linter.unusedVariables false
set_option linter.unusedSimpArgs false
end Go.Proofs.YtjjpnglilalnmaaGreatDoor

namespace Go.Proofs.YtjjpnglilalnmaaGreatDoor
open Go.RowKit
set_option linter.unusedVariables false
set_option linter.unusedSimpArgs false
set_option maxHeartbeats 8000000 in
set_option maxRecDepth 100000 in
theorem rmeet_any (v u : Value) (l m : List R) (w : World) (hv : RunsAt w v l) (hu : RunsAt w u m) (hl : I64R l) (hm : I64R m) (hn : l.length ≤ 2000) (hn2 : m.length ≤ 2000) :
    Calls Tryz.prog 106 #[v, u] w fun e w' => ∃ v' : Value, e = .returned v' ∧ RunsAt w' v' (interR l m) ∧ Kp w w' := by
  obtain ⟨i0, hi, hz0, hz1, hz2⟩ := info_parts infoR
  have mx := mixedS
  have C1 := Lib.hid (fun w' (k : Kp w w') => asR_any v l w' (hv.kp k) hl (by omega) w' (Kp.refl _))
  have C2 := Lib.hid (fun w' (k : Kp w w') => asR_any u m w' (hu.kp k) hm (by omega) w' (Kp.refl _))
  have lA : (nf l).length ≤ 2000 := by have := nf_len l; omega
  have lB : (nf m).length ≤ 2000 := by have := nf_len m; omega
  have FIN := Lib.hid (mtL_inter l m)
  have OKA := Lib.hid (sane_ok (nf_sane l))
  have OKB := Lib.hid (sane_ok (nf_sane m))
  clear hv hu hl hm hn hn2
  generalize nf l = A at *
  generalize nf m = B at *
  generalize interR l m = RES at *
  go_enter Tryz.func106, Tryz.ntmps106
  go_wp2_with fail
  refine (C1.out _ (Kp.refl _)).mono ?_
  rintro e w1 ⟨v1, rfl, R0, k2⟩
  have C3 := Lib.hid (C2.out w1 k2)
  clear C2
  go_wp2_with fail
  refine (C3.out).mono ?_
  rintro e w2 ⟨v2, rfl, R02, kk2⟩
  have K2 := Lib.hid (k2.trans kk2)
  have R2 := Lib.hid R02
  have R1 := Lib.hid (R0.kp kk2)
  obtain ⟨ad1, c1, rfl⟩ := R1.out.slice
  obtain ⟨ad2, c2, rfl⟩ := R2.out.slice
  clear R0 R02 kk2 k2 C1 C3
  go_wp2
  go_loopw [7, 8] (fun u7 u8 wr => ∃ i : Nat, i ≤ A.length ∧ u8 = .int .i64 i ∧ Hid (wr.ownsRow w2.heap.size 70 2 u7 (mtO A B i 0).length (cellsR (mtO A B i 0))) ∧ Hid (Kp w2 wr)) (fun _ u8 _ => A.length - (intOf u8).toNat)
  case atStart => exact ⟨0, Nat.zero_le _, rfl, Lib.hid (by rw [mtO_start]; exact World.ownsRow_nil _ _ _ _), Lib.hid (Kp.refl _)⟩
  case round =>
    obtain ⟨wo, hwo⟩ : ∃ x : World, x = wr := ⟨wr, rfl⟩
    subst hwo
    obtain ⟨i, hiA, rfl, O, K3⟩ := hrel
    by_cases hlt : i < A.length
    · have z0 : (0 : Int) ≤ (i : Int) := by omega
      have z1 : (i : Int) < (A.length : Int) := by omega
      have ROW := Lib.hid (mtO_row A B i hlt)
      go_wp2
      go_loopw [7, 9] (fun u7 u9 wq => ∃ k : Nat, k ≤ B.length ∧ u9 = .int .i64 k ∧ Hid (wq.ownsRow w2.heap.size 70 2 u7 (mtO A B i k).length (cellsR (mtO A B i k))) ∧ Hid (Kp w2 wq)) (fun _ u9 _ => B.length - (intOf u9).toNat)
      case atStart => exact ⟨0, Nat.zero_le _, rfl, O, K3⟩
      case round =>
        obtain ⟨wq, hwq⟩ : ∃ x : World, x = wr := ⟨wr, rfl⟩
        subst hwq
        clear O K3
        obtain ⟨k, hkB, rfl, O, K3⟩ := hrel
        by_cases hlk : k < B.length
        · rcases R1.out with ⟨_, _, _, e⟩ | ⟨b1, off1, cap1, ev, hc, hm, hx⟩
          · rw [e] at hlt; simp at hlt
          cases ev
          rcases R2.out with ⟨_, _, _, e⟩ | ⟨b2, off2, cap2, ev, hc2, hm2, hx2⟩
          · rw [e] at hlk; simp at hlk
          cases ev
          have RD := Lib.hid (fun w' (kk : Kp w2 w') => And.intro (rd_at hx kk i hlt) (rd_at hx2 kk k hlk))
          clear hx hc hm hx2 hc2 hm2
          obtain ⟨p1, p2, p3⟩ := OKA.out _ (at_mem hlt)
          obtain ⟨s1, s2, s3⟩ := OKB.out _ (at_mem hlk)
          have NX := Lib.hid (mtO_next A B i k hlk)
          have ml : (mtO A B i k).length ≤ 2000 * 2000 := mtO_len hlt hkB lA lB
          obtain ⟨al, ah, ea⟩ : ∃ x y, at_ A i = (x, y) := ⟨_, _, rfl⟩
          obtain ⟨bl, bh, eb⟩ : ∃ x y, at_ B k = (x, y) := ⟨_, _, rfl⟩
          rw [ea] at p1 p2 p3 NX RD
          rw [eb] at s1 s2 s3 NX RD
          simp only at p1 p2 p3 s1 s2 s3 RD
          clear ea eb
          have y0 : (0 : Int) ≤ (k : Int) := by omega
          have y1 : (k : Int) < (B.length : Int) := by omega
          have hsz := K3.out.size
          have KS := Lib.hid (fun w' (kk : Kp wq w') => RD.out _ (K3.out.trans kk))
          have KG := Lib.hid (fun ws w' (kk : Kp wq ws) (g : ws.grownBy w' u7.ownBlock) => (show ((w'.cell? ⟨b1, off1 + i * 2, none⟩ = some (.int .i64 al) ∧ w'.cell? ⟨b1, off1 + i * 2 + 1, none⟩ = some (.int .i64 ah)) ∧ (w'.cell? ⟨b2, off2 + k * 2, none⟩ = some (.int .i64 bl) ∧ w'.cell? ⟨b2, off2 + k * 2 + 1, none⟩ = some (.int .i64 bh))) ∧ Kp w2 w' from
            have k5 : Kp w2 w' := Kp.grown (K3.out.trans kk) g (fun j hj => (O.out.lt j hj).1)
            ⟨RD.out _ k5, k5⟩))
          obtain ⟨⟨d1, d2⟩, d3, d4⟩ := RD.out _ K3.out
          generalize mtO A B i k = M at *
          by_cases c : max al bl ≤ min ah bh
          · have q1 : decide (max al bl ≤ min ah bh) = true := decide_eq_true c
            have EN := Lib.hid (show ov (al, ah) (bl, bh) = [(max al bl, min ah bh)] by unfold ov; simp only; rw [if_pos c])
            clear c
            go_wp2_with fail
            go_quiet (fail)
            have KQ := Lib.hid (Kp.drewN wq nq)
            have O2 := Lib.hid (own_kp O.out KQ.out)
            generalize wq.drewN nq = wy at KQ O2 ⊢
            clear d1 d2 d3 d4
            obtain ⟨⟨d1, d2⟩, d3, d4⟩ := KS.out _ KQ.out
            have hsy := Nat.le_trans hsz KQ.out.size
            go_wp2_with fail
            go_region_held3 (fun w' => (w'.cell? ⟨b1, off1 + i * 2, none⟩ = some (.int .i64 al) ∧ w'.cell? ⟨b1, off1 + i * 2 + 1, none⟩ = some (.int .i64 ah)) ∧ (w'.cell? ⟨b2, off2 + k * 2, none⟩ = some (.int .i64 bl) ∧ w'.cell? ⟨b2, off2 + k * 2 + 1, none⟩ = some (.int .i64 bh)))
              (first | assumption | exact KS.out _ (KQ.out.trans (by first | exact Kp.drew _ | exact Kp.drewN _ _ | exact (Kp.drew _).trans (Kp.alloc _ _) | exact (Kp.drewN _ _).trans (Kp.alloc _ _))))
              (first | (refine step_append_lies _ rfl (.tmp 49) (.tmp 73) 49 rfl w2.heap.size 70 i0 (.agg #[.int .i64 0, .int .i64 0]) 2 16 Tryz.underlying49 hi hz0 hz1 hz2 rfl (by decide) u7 M.length (cellsR M) (by simp [Act.eval, Act.put]) (World.ownsRow.alloc O2.out _) ⟨wy.heap.size, 0, none⟩ 1 1 [.int .i64 (max al bl), .int .i64 (min ah bh)] (by simp [Act.eval, Act.put]) rfl (cell_one_at _ _ _ _) (by intro u hu; simp at hu; rcases hu with rfl | rfl <;> rfl) (by decide) (by unfold maxLen; omega) (by omega) (by simp; omega) _ rfl ?_; intro g4 cap4 w4 hown4 hgrow4 hat4 hlt4; have kg4 := KG.out _ _ (KQ.out.trans ((Kp.drew _).trans (Kp.alloc _ _))) hgrow4; have kg5 := kg4.1; have kg6 := kg4.2))
            all_goals go_wp2
            all_goals refine ⟨⟨k + 1, by omega, by go_num, Lib.hid (by rw [NX.out, EN.out]; exact own_snoc hown4), Lib.hid kg6⟩, by simp only [intOf]; omega⟩
          · have q1 : decide (max al bl ≤ min ah bh) = false := decide_eq_false c
            have EN := Lib.hid (show ov (al, ah) (bl, bh) = [] by unfold ov; simp only; rw [if_neg c])
            clear c
            go_wp2_with fail
            go_quiet (fail)
            go_wp2
            refine ⟨⟨k + 1, by omega, by go_num, Lib.hid (by rw [NX.out, EN.out, List.append_nil]; exact own_drewN O.out _), Lib.hid (K3.out.trans (Kp.drewN _ _))⟩, by simp only [intOf]; omega⟩
        · obtain rfl : k = B.length := by omega
          have q0 : decide ((B.length : Int) < B.length) = false := by simp
          have O2 := O.out
          rw [ROW.out] at O2
          have O3 := Lib.hid O2
          clear O O2
          go_wp2
          refine ⟨⟨i + 1, by omega, by go_num, O3, K3⟩, by simp only [intOf]; omega⟩
    · obtain rfl : i = A.length := by omega
      have q0 : decide ((A.length : Int) < A.length) = false := by simp
      have O2 := O.out
      rw [mtO_end, FIN.out] at O2
      have O3 := Lib.hid (runsAt_own O2)
      clear O O2
      go_wp2
      go_ret
      exact ⟨_, rfl, O3.out, K2.out.trans K3.out⟩
end Go.Proofs.YtjjpnglilalnmaaGreatDoor

namespace Go.Proofs.YtjjpnglilalnmaaGreatDoor
open Go.RowKit
set_option linter.unusedVariables false
set_option linter.unusedSimpArgs false
set_option maxHeartbeats 1000000 in
theorem rclip_any (v : Value) (l : List R) (lo hi' : Int) (w : World) (hv : RunsAt w v l) (hl : I64R l) (hn : l.length ≤ 2000) (hi64 : I64R [(lo, hi')]) :
    Calls Tryz.prog 97 #[v, .int .i64 lo, .int .i64 hi'] w fun e w' => ∃ v' : Value, e = .returned v' ∧ RunsAt w' v' (interR l [(lo, hi')]) ∧ Kp w w' := by
  have C := Lib.hid (fun t => rmeet_any v (.slice (some ⟨w.heap.size, 0, none⟩) 1 1) l [(lo, hi')] (w.alloc (.cells #[.int .i64 lo, .int .i64 hi'] t)) (hv.kp (Kp.alloc _ _)) (lit_at w [(lo, hi')] _ _ rfl (by simp [maxLen])) hl hi64 hn (by simp))
  clear hv hl
  generalize interR l [(lo, hi')] = RES at *
  go_enter Tryz.func97, Tryz.ntmps97
  go_wp2_with fail
  refine (C.out _).mono ?_
  rintro e w1 ⟨v1, rfl, R1, kk⟩
  have RR := Lib.hid R1
  have K := Lib.hid kk
  clear R1 kk C
  go_wp2
  go_ret
  exact ⟨_, rfl, RR.out, (Kp.alloc _ _).trans K.out⟩
end Go.Proofs.YtjjpnglilalnmaaGreatDoor

namespace Go.Proofs.YtjjpnglilalnmaaGreatDoor
open Go.RowKit
set_option linter.unusedVariables false
set_option linter.unusedSimpArgs false
end Go.Proofs.YtjjpnglilalnmaaGreatDoor

namespace Go.Proofs.YtjjpnglilalnmaaGreatDoor
open Go.RowKit
set_option linter.unusedVariables false
set_option linter.unusedSimpArgs false
theorem fst_low : fst 2 0 = 60 := by
  obtain ⟨a1, a2, a3, a4, a5⟩ := months (k := 2) (i := 0) (Int.le_refl _) (by decide) (by decide)
  rw [a4, show sm 2 0 = 2 by decide, mon_2]
theorem okO_in {k d : Int} (h : 0 < cnt k) (h0 : 0 ≤ d) (h1 : d ≤ 3652424) (g : k = 2 → 60 ≤ d) : okO k d = true := by
  rcases Bool.eq_false_or_eq_true (okO k d) with e | e
  · exact e
  · rcases okO_no e h0 h1 with c | ⟨c, c2⟩
    · omega
    · have := g c; omega
theorem okO_out {k d : Int} (h : okO k d = true) : 0 < cnt k ∧ 0 ≤ d ∧ d ≤ 3652424 ∧ (k = 2 → 60 ≤ d) := by
  obtain ⟨a, b, c, e⟩ := (okO_iff k d).1 h
  refine ⟨a, b, c, fun k2 => ?_⟩
  subst k2
  obtain ⟨u1, u2, u3, u4⟩ := unum_ok h
  have := fst_mono (k := 2) (Int.le_refl 0) u1 u2
  rw [fst_low] at this
  omega
theorem ofV_low : ofV 2 60 = 0 := by
  have ok : okO 2 60 = true := okO_in (by decide) (by decide) (by decide) (fun _ => Int.le_refl _)
  obtain ⟨u1, u2, u3, u4⟩ := unum_ok ok
  unfold ofV
  rw [if_pos ok]
  rcases Int.lt_or_le 0 (unum 2 60) with c | c
  · have := unit_next (k := 2) (Int.le_refl 0) c u2
    have := span_bd (k := 2) (Int.le_refl 0) (by omega)
    rw [fst_low] at this
    omega
  · omega
/-- the document's least day -/
def lowD (k lo : Int) : Int := if k = 2 then max (max lo 0) 60 else max lo 0
noncomputable def thR (k lo hi' : Int) : Bool := decide (lowD k lo ≤ min hi' 3652424) && (okO k (lowD k lo) && okO k (min hi' 3652424))
theorem thR_eq (k lo hi' : Int) : thR k lo hi' = thB k lo hi' := by
  rw [Bool.eq_iff_iff]
  unfold thR thB
  simp only [Bool.and_eq_true, decide_eq_true_eq]
  have b : max lo 0 ≤ lowD k lo := by unfold lowD; split <;> omega
  constructor
  · rintro ⟨h1, h2, h3⟩
    exact ⟨by omega, h3⟩
  · rintro ⟨h1, h3⟩
    obtain ⟨c1, c2, c3, c4⟩ := okO_out h3
    have : lowD k lo ≤ min hi' 3652424 := by
      unfold lowD
      split
      · rename_i e; have := c4 e; omega
      · omega
    exact ⟨this, okO_in c1 (by omega) (by omega) (by intro e; unfold lowD; rw [if_pos e]; omega), h3⟩
theorem thB_of {k lo hi' : Int} (h : thB k lo hi' = true) : ofV k (max lo 0) = ofV k (lowD k lo) := by
  unfold lowD
  split
  · rename_i e
    subst e
    by_cases c : 60 ≤ max lo 0
    · rw [show max (max lo 0) 60 = max lo 0 by omega]
    · rw [show max (max lo 0) 60 = 60 by omega, ofV_low]
      unfold ofV
      rcases Bool.eq_false_or_eq_true (okO 2 (max lo 0)) with o | o
      · have := (okO_out o).2.2.2 rfl; omega
      · rw [o]; rfl
  · rfl
noncomputable def touS (k lo hi' : Int) : List R := if thR k lo hi' = true then [(ofV k (lowD k lo), ofV k (min hi' 3652424))] else []
theorem touS_eq (k lo hi' : Int) : touS k lo hi' = touR k lo hi' := by
  unfold touS touR
  rw [thR_eq]
  split
  · rename_i h; rw [thB_of h]
  · rfl
noncomputable def insS (k lo hi' : Int) : List R := if thR k lo hi' = true then nf [(ofV k (lowD k lo) + (if firV k (ofV k (lowD k lo)) < lowD k lo then 1 else 0), ofV k (min hi' 3652424) - (if min hi' 3652424 < lasV k (ofV k (min hi' 3652424)) then 1 else 0))] else []
theorem insS_eq (k lo hi' : Int) : insS k lo hi' = insR k lo hi' := by
  unfold insS insR
  rw [thR_eq]
  split
  · rename_i h
    unfold insP
    rw [thB_of h]
    have ok := h
    rw [← thR_eq] at ok
    unfold thR at ok
    simp only [Bool.and_eq_true, decide_eq_true_eq] at ok
    obtain ⟨o1, o2, o3⟩ := ok
    obtain ⟨u1, u2, u3, u4⟩ := unum_ok o2
    obtain ⟨v1, v2, v3, v4⟩ := unum_ok o3
    have e1 : ofV k (lowD k lo) = unum k (lowD k lo) := by unfold ofV; rw [if_pos o2]
    have e2 : ofV k (min hi' 3652424) = unum k (min hi' 3652424) := by unfold ofV; rw [if_pos o3]
    rw [e1, e2, firV_in u1 u2, lasV_in v1 v2]
    have s1 := span_bd u1 u2
    have s2 := span_bd v1 v2
    have x1 : (fst k (unum k (lowD k lo)) < lowD k lo) ↔ (fst k (unum k (lowD k lo)) < lo) := by
      unfold lowD
      split
      · rename_i e
        subst e
        have := fst_mono (k := 2) (Int.le_refl 0) u1 u2
        rw [fst_low] at this
        unfold lowD at this
        rw [if_pos rfl] at this
        omega
      · rename_i e
        unfold lowD at s1
        rw [if_neg e] at s1
        omega
    have x2 : (min hi' 3652424 < lst k (unum k (min hi' 3652424))) ↔ (hi' < lst k (unum k (min hi' 3652424))) := by omega
    simp only [x1, x2]
  · rfl
end Go.Proofs.YtjjpnglilalnmaaGreatDoor

namespace Go.Proofs.YtjjpnglilalnmaaGreatDoor
open Go.RowKit
set_option linter.unusedVariables false
set_option linter.unusedSimpArgs false
end Go.Proofs.YtjjpnglilalnmaaGreatDoor

namespace Go.Proofs.YtjjpnglilalnmaaGreatDoor
open Go.RowKit
set_option linter.unusedVariables false
set_option linter.unusedSimpArgs false
/-- the unit of a day, where one knows it -/
theorem ofV_eq {k n d : Int} (h : 0 ≤ n) (h' : n < cnt k) (a : fst k n ≤ d) (b : d ≤ lst k n) : okO k d = true ∧ ofV k d = n := by
  obtain ⟨o, x, y⟩ := (range_day (day := d) h (Int.le_refl n) h').1 ⟨a, b⟩
  exact ⟨o, by unfold ofV; rw [if_pos o]; omega⟩
theorem ex1 : edgB 1 [(24000, 24001)] = true ∧ edgR (firV 1) 1 [(24000, 24001)] = [(730485, 730485), (730516, 730516)] := by decide +kernel
theorem ex2 : insR 3 730485 731031 = [(2000, 2000)] := by
  obtain ⟨o1, e1⟩ := ofV_eq (k := 3) (n := 2000) (d := 730485) (by decide) (by decide) (by decide +kernel) (by decide +kernel)
  obtain ⟨o2, e2⟩ := ofV_eq (k := 3) (n := 2001) (d := 731031) (by decide) (by decide) (by decide +kernel) (by decide +kernel)
  unfold insR thB insP
  rw [show max (730485 : Int) 0 = 730485 by decide, show min (731031 : Int) 3652424 = 731031 by decide, e1, e2, o2]
  decide +kernel
theorem ex3 : (touR 3 5 6).length = 1 := by
  obtain ⟨o2, e2⟩ := ofV_eq (k := 3) (n := 0) (d := 6) (by decide) (by decide) (by decide +kernel) (by decide +kernel)
  unfold touR thB
  rw [show min (6 : Int) 3652424 = 6 by decide, o2]
  rfl
end Go.Proofs.YtjjpnglilalnmaaGreatDoor

namespace Go.Proofs.YtjjpnglilalnmaaGreatDoor
set_option linter.unusedVariables false
set_option linter.unusedSimpArgs false
theorem coverR_union (k : Int) (a b : List R) : coverR k (nf (a ++ b)) = nf (coverR k a ++ coverR k b) := by
  refine sane_ext (coverR_sane _ _) (nf_sane _) fun n => ?_
  rw [nf_mem, memR_append, coverR_mem, coverR_mem, coverR_mem, nf_mem, memR_append]
  constructor
  · rintro ⟨o, h | h⟩
    · exact .inl ⟨o, h⟩
    · exact .inr ⟨o, h⟩
  · rintro (⟨o, h⟩ | ⟨o, h⟩)
    · exact ⟨o, .inl h⟩
    · exact ⟨o, .inr h⟩
theorem coverR_meet (k : Int) (a b : List R) : coverR k (interR a b) = interR (coverR k a) (coverR k b) := by
  refine sane_ext (coverR_sane _ _) (interR_sane _ _) fun n => ?_
  rw [interR_mem, coverR_mem, coverR_mem, coverR_mem, interR_mem]
  constructor
  · rintro ⟨o, h, g⟩; exact ⟨⟨o, h⟩, o, g⟩
  · rintro ⟨⟨o, h⟩, _, g⟩; exact ⟨o, h, g⟩
theorem coverR_make (k : Int) (a : List R) : coverR k (nf a) = coverR k a := by
  refine sane_ext (coverR_sane _ _) (coverR_sane _ _) fun n => ?_
  rw [coverR_mem, coverR_mem, nf_mem]
theorem okU_of {k i : Int} (h : 0 ≤ i) (h' : i < cnt k) : okU k i = true := okU_yes h h'
theorem fst_two {i : Int} (h : 0 ≤ i) (h' : i < cnt 2) : 60 ≤ fst 2 i := by
  have := fst_mono (k := 2) (Int.le_refl 0) h h'
  rw [fst_low] at this
  exact this
/-- the first unit that may touch -/
theorem low_unit (k lo : Int) (c : 0 < cnt k) (h : max lo 0 ≤ 3652424) : (okO k (max lo 0) = true ∧ ofV k (max lo 0) = unum k (max lo 0)) ∨ (k = 2 ∧ max lo 0 < 60 ∧ ofV k (max lo 0) = 0) := by
  rcases Bool.eq_false_or_eq_true (okO k (max lo 0)) with o | o
  · exact .inl ⟨o, by unfold ofV; rw [if_pos o]⟩
  · rcases okO_no o (by omega) h with g | ⟨g1, g2⟩
    · omega
    · exact .inr ⟨g1, g2, by unfold ofV; rw [o]; rfl⟩
theorem touR_mem (k lo hi' i : Int) : memR (touR k lo hi') i ↔ okU k i = true ∧ lo ≤ hi' ∧ fst k i ≤ hi' ∧ lo ≤ lst k i := by
  constructor
  · intro h
    unfold touR at h
    split at h
    · rename_i hb
      obtain ⟨r, hr, g1, g2, _⟩ := h
      rw [List.mem_singleton] at hr
      subst hr
      simp only at g1 g2
      unfold thB at hb
      simp only [Bool.and_eq_true, decide_eq_true_eq] at hb
      obtain ⟨hm, ob⟩ := hb
      obtain ⟨u1, u2, u3, u4⟩ := unum_ok ob
      have e2 : ofV k (min hi' 3652424) = unum k (min hi' 3652424) := by unfold ofV; rw [if_pos ob]
      rw [e2] at g2
      have c := (okO_out ob).1
      have i0 : 0 ≤ i := by have := ofV_bd k (max lo 0); omega
      have i1 : i < cnt k := by omega
      have f1 := fst_mono i0 g2 u2
      refine ⟨okU_of i0 i1, by omega, by omega, ?_⟩
      rcases low_unit k lo c (by omega) with ⟨o, e⟩ | ⟨rfl, e1, e⟩
      · rw [e] at g1
        obtain ⟨v1, v2, v3, v4⟩ := unum_ok o
        have := lst_mono v1 g1 i1
        omega
      · have := fst_two i0 i1
        have := span_bd i0 i1
        omega
    · exact absurd h (memR_nil i)
  · rintro ⟨o, h1, h2, h3⟩
    obtain ⟨i0, i1⟩ := (okU_iff k i).1 o
    have sp := span_bd i0 i1
    have hm : max lo 0 ≤ min hi' 3652424 := by omega
    have ob : okO k (min hi' 3652424) = true := okO_in (by omega) (by omega) (by omega) (by rintro rfl; have := fst_two i0 i1; omega)
    have hb : thB k lo hi' = true := by unfold thB; simp only [Bool.and_eq_true, decide_eq_true_eq]; exact ⟨hm, ob⟩
    obtain ⟨u1, u2, u3, u4⟩ := unum_ok ob
    have e2 : ofV k (min hi' 3652424) = unum k (min hi' 3652424) := by unfold ofV; rw [if_pos ob]
    unfold touR
    rw [if_pos hb]
    have cb := cnt_bd k
    refine ⟨_, List.mem_singleton.2 rfl, ?_, ?_, by omega, by omega⟩
    · simp only
      rcases low_unit k lo (by omega) (by omega) with ⟨o, e⟩ | ⟨rfl, e1, e⟩
      · rw [e]
        obtain ⟨v1, v2, v3, v4⟩ := unum_ok o
        rcases Int.lt_or_le i (unum k (max lo 0)) with c | c
        · have := unit_next i0 c v2
          omega
        · exact c
      · omega
    · simp only
      rw [e2]
      rcases Int.lt_or_le (unum k (min hi' 3652424)) i with c | c
      · have := unit_next u1 c i1
        omega
      · exact c
theorem insR_mem (k lo hi' i : Int) : memR (insR k lo hi') i ↔ okU k i = true ∧ lo ≤ fst k i ∧ lst k i ≤ hi' := by
  constructor
  · intro h
    unfold insR at h
    split at h
    · rename_i hb
      rw [nf_mem] at h
      obtain ⟨r, hr, g1, g2, _⟩ := h
      rw [List.mem_singleton] at hr
      subst hr
      unfold insP at g1 g2
      simp only at g1 g2
      unfold thB at hb
      simp only [Bool.and_eq_true, decide_eq_true_eq] at hb
      obtain ⟨hm, ob⟩ := hb
      obtain ⟨u1, u2, u3, u4⟩ := unum_ok ob
      have e2 : ofV k (min hi' 3652424) = unum k (min hi' 3652424) := by unfold ofV; rw [if_pos ob]
      rw [e2, lasV_in u1 u2] at g2
      have c := (okO_out ob).1
      have i0 : 0 ≤ i := by have := ofV_bd k (max lo 0); split at g1 <;> omega
      have iy : i ≤ unum k (min hi' 3652424) := by split at g2 <;> omega
      have i1 : i < cnt k := by omega
      have sp := span_bd i0 i1
      refine ⟨okU_of i0 i1, ?_, ?_⟩
      · rcases low_unit k lo c (by omega) with ⟨o, e⟩ | ⟨rfl, e1, e⟩
        · rw [e] at g1
          obtain ⟨v1, v2, v3, v4⟩ := unum_ok o
          rw [firV_in v1 v2] at g1
          split at g1
          · have := unit_next v1 (show unum k (max lo 0) < i by omega) i1
            omega
          · have := fst_mono v1 (show unum k (max lo 0) ≤ i by omega) i1
            omega
        · have := fst_two i0 i1
          omega
      · split at g2
        · have := unit_next i0 (show i < unum k (min hi' 3652424) by omega) u2
          omega
        · have := lst_mono i0 iy u2
          omega
    · exact absurd h (memR_nil i)
  · rintro ⟨o, h1, h2⟩
    obtain ⟨i0, i1⟩ := (okU_iff k i).1 o
    have sp := span_bd i0 i1
    have hm : max lo 0 ≤ min hi' 3652424 := by omega
    have ob : okO k (min hi' 3652424) = true := okO_in (by omega) (by omega) (by omega) (by rintro rfl; have := fst_two i0 i1; omega)
    have hb : thB k lo hi' = true := by unfold thB; simp only [Bool.and_eq_true, decide_eq_true_eq]; exact ⟨hm, ob⟩
    obtain ⟨u1, u2, u3, u4⟩ := unum_ok ob
    have e2 : ofV k (min hi' 3652424) = unum k (min hi' 3652424) := by unfold ofV; rw [if_pos ob]
    unfold insR
    rw [if_pos hb, nf_mem]
    have cb := cnt_bd k
    refine ⟨_, List.mem_singleton.2 rfl, ?_, ?_, by omega, by omega⟩
    · unfold insP
      simp only
      rcases low_unit k lo (by omega) (by omega) with ⟨o, e⟩ | ⟨rfl, e1, e⟩
      · rw [e]
        obtain ⟨v1, v2, v3, v4⟩ := unum_ok o
        rw [firV_in v1 v2]
        have ge : unum k (max lo 0) ≤ i := by
          rcases Int.lt_or_le i (unum k (max lo 0)) with c | c
          · have := unit_next i0 c v2
            omega
          · exact c
        split
        · rename_i g
          rcases Int.lt_or_eq_of_le ge with c | c
          · omega
          · rw [c] at g; omega
        · omega
      · rw [e, firV_in (Int.le_refl 0) (by omega), fst_low]
        split <;> omega
    · unfold insP
      simp only
      rw [e2, lasV_in u1 u2]
      have le : i ≤ unum k (min hi' 3652424) := by
        rcases Int.lt_or_le (unum k (min hi' 3652424)) i with c | c
        · have := unit_next u1 c i1
          omega
        · exact c
      split
      · rename_i g
        rcases Int.lt_or_eq_of_le le with c | c
        · omega
        · rw [← c] at g; omega
      · omega
/-- how many numbers -/
theorem sum_nums : ∀ (l : List R), (∀ r ∈ l, r.1 ≤ r.2) → sumR l = (nums l).length := by
  intro l
  induction l with
  | nil => intro _; rfl
  | cons r t ih =>
    intro h
    have h1 := h r (List.mem_cons_self)
    rw [show nums (r :: t) = runF r ++ nums t by simp [nums], List.length_append, sumR, ih (fun q hq => h q (List.mem_cons_of_mem _ hq))]
    unfold runF
    rw [upF_len]
    omega
theorem sum_sing : ∀ (l : List Int), sumR (sing l) = l.length := by
  intro l
  induction l with
  | nil => rfl
  | cons n t ih =>
    rw [show sing (n :: t) = (n, n) :: sing t from rfl, sumR, ih]
    simp
    omega
theorem edgR_fmem {k : Int} {s : List R} (hb : edgB k s = true) (d : Int) : memR (edgR (firV k) k s) d ↔ okO k d = true ∧ memR s (unum k d) ∧ fst k (unum k d) = d := by
  have U : ∀ n, 0 ≤ n → n < cnt k → fst k n = d → okO k d = true ∧ unum k d = n := by
    intro n h1 h2 h3
    have := span_bd h1 h2
    obtain ⟨o, e⟩ := ofV_eq (d := d) h1 h2 (by omega) (by omega)
    exact ⟨o, by unfold ofV at e; rwa [if_pos o] at e⟩
  by_cases h : k = 0
  · subst h
    unfold edgR
    rw [if_pos hb, if_pos rfl, unitsR_mem]
    constructor
    · rintro ⟨h1, h2, h3⟩
      obtain ⟨o, e⟩ := U d h2 h3 (fst_zero d)
      exact ⟨o, by rw [e]; exact h1, by rw [e]; exact fst_zero d⟩
    · rintro ⟨o, h1, h2⟩
      obtain ⟨u1, u2, u3, u4⟩ := unum_ok o
      rw [fst_zero] at h2
      rw [h2] at h1 u1 u2
      exact ⟨h1, u1, u2⟩
  · rw [edgR_fir, if_pos hb, if_neg h]
    constructor
    · rintro ⟨r, hr, g1, g2, _⟩
      unfold sing at hr
      simp only [List.mem_map] at hr
      obtain ⟨m, ⟨n, hn, rfl⟩, rfl⟩ := hr
      simp only at g1 g2
      obtain ⟨n1, n2, n3⟩ := units_num hn
      rw [firV_in n1 n2] at g1 g2
      obtain ⟨o, e⟩ := U n n1 n2 (by omega)
      exact ⟨o, by rw [e]; exact n3, by rw [e]; omega⟩
    · rintro ⟨o, h1, h2⟩
      obtain ⟨u1, u2, u3, u4⟩ := unum_ok o
      have nm : unum k d ∈ nums (unitsR k s) := (nums_mem (sane_ok (unitsR_sane k s))).2 ((unitsR_mem k s _).2 ⟨h1, u1, u2⟩)
      have sp := span_bd u1 u2
      refine ⟨(d, d), ?_, Int.le_refl _, Int.le_refl _, by omega, by omega⟩
      unfold sing
      simp only [List.mem_map]
      exact ⟨d, ⟨_, nm, by rw [firV_in u1 u2]; exact h2⟩, rfl⟩
theorem edgR_lmem {k : Int} {s : List R} (hb : edgB k s = true) (d : Int) : memR (edgR (lasV k) k s) d ↔ okO k d = true ∧ memR s (unum k d) ∧ lst k (unum k d) = d := by
  have U : ∀ n, 0 ≤ n → n < cnt k → lst k n = d → okO k d = true ∧ unum k d = n := by
    intro n h1 h2 h3
    have := span_bd h1 h2
    obtain ⟨o, e⟩ := ofV_eq (d := d) h1 h2 (by omega) (by omega)
    exact ⟨o, by unfold ofV at e; rwa [if_pos o] at e⟩
  by_cases h : k = 0
  · subst h
    unfold edgR
    rw [if_pos hb, if_pos rfl, unitsR_mem]
    constructor
    · rintro ⟨h1, h2, h3⟩
      obtain ⟨o, e⟩ := U d h2 h3 (lst_zero d)
      exact ⟨o, by rw [e]; exact h1, by rw [e]; exact lst_zero d⟩
    · rintro ⟨o, h1, h2⟩
      obtain ⟨u1, u2, u3, u4⟩ := unum_ok o
      rw [lst_zero] at h2
      rw [h2] at h1 u1 u2
      exact ⟨h1, u1, u2⟩
  · rw [edgR_las, if_pos hb, if_neg h]
    constructor
    · rintro ⟨r, hr, g1, g2, _⟩
      unfold sing at hr
      simp only [List.mem_map] at hr
      obtain ⟨m, ⟨n, hn, rfl⟩, rfl⟩ := hr
      simp only at g1 g2
      obtain ⟨n1, n2, n3⟩ := units_num hn
      rw [lasV_in n1 n2] at g1 g2
      obtain ⟨o, e⟩ := U n n1 n2 (by omega)
      exact ⟨o, by rw [e]; exact n3, by rw [e]; omega⟩
    · rintro ⟨o, h1, h2⟩
      obtain ⟨u1, u2, u3, u4⟩ := unum_ok o
      have nm : unum k d ∈ nums (unitsR k s) := (nums_mem (sane_ok (unitsR_sane k s))).2 ((unitsR_mem k s _).2 ⟨h1, u1, u2⟩)
      have sp := span_bd u1 u2
      refine ⟨(d, d), ?_, Int.le_refl _, Int.le_refl _, by omega, by omega⟩
      unfold sing
      simp only [List.mem_map]
      exact ⟨d, ⟨_, nm, by rw [lasV_in u1 u2]; exact h2⟩, rfl⟩
theorem edgR_fsum {k : Int} {s : List R} (hb : edgB k s = true) : sumR (edgR (firV k) k s) = sumR (unitsR k s) := by
  rw [edgR_fir, if_pos hb]
  split
  · rfl
  · rw [sum_sing, List.length_map, sum_nums _ (fun r hr => (sane_ok (unitsR_sane k s) r hr).1)]
theorem edgR_lsum {k : Int} {s : List R} (hb : edgB k s = true) : sumR (edgR (lasV k) k s) = sumR (unitsR k s) := by
  rw [edgR_las, if_pos hb]
  split
  · rfl
  · rw [sum_sing, List.length_map, sum_nums _ (fun r hr => (sane_ok (unitsR_sane k s) r hr).1)]
theorem edgB_sum {k : Int} {s : List R} (h : k ≠ 0) : edgB k s = decide (sumR (unitsR k s) ≤ 400) := by
  unfold edgB
  rw [if_neg h, sum_nums _ (fun r hr => (sane_ok (unitsR_sane k s) r hr).1)]
  by_cases c : (nums (unitsR k s)).length ≤ 400
  · rw [decide_eq_true c, decide_eq_true (by omega)]
  · rw [decide_eq_false c, decide_eq_false (by omega)]
theorem edgB_day {s : List R} (h : s.length ≤ 400) : edgB 0 s = true := by
  unfold edgB
  rw [if_pos rfl]
  exact decide_eq_true (unitsR_len h)
end Go.Proofs.YtjjpnglilalnmaaGreatDoor
