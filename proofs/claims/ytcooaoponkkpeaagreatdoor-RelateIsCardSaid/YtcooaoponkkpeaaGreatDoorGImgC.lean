import Derived.Test.YtcooaoponkkpeaaGreatDoorJI
import Derived.Test.YtcooaoponkkpeaaGreatDoorGSetC
set_option maxHeartbeats 8000000
set_option maxRecDepth 100000
namespace Go.Proofs.YtcooaoponkkpeaaGreatDoor
set_option linter.unusedVariables false
set_option linter.unusedSimpArgs false
theorem runF_mem {r : R} {n : Int} : n ∈ runF r ↔ r.1 ≤ n ∧ n ≤ r.2 := by
 unfold runF upF
 simp only [List.mem_map, List.mem_range]
 constructor
 ·rintro ⟨i, hi, rfl⟩; omega
 ·rintro ⟨a, b⟩
  exact ⟨(n - r.1).toNat, by omega, by omega⟩
theorem nums_mem {l : List R} (h : ∀ r ∈ l, okR r) {n : Int} : n ∈ nums l ↔ memR l n := by
 unfold nums memR
 simp only [List.mem_flatMap, runF_mem]
 constructor
 ·rintro ⟨r, hr, a, b⟩
  obtain ⟨o1, o2, o3⟩ := h r hr
  exact ⟨r, hr, a, b, by omega, by omega⟩
 ·rintro ⟨r, hr, a, b, _⟩
  exact ⟨r, hr, a, b⟩
theorem nums_lt : ∀ {l : List R}, sane l → (nums l).Pairwise (fun a b => a < b) := by
 intro l
 induction l with
 | nil => intro _; exact List.Pairwise.nil
 | cons r t ih =>
  intro h
  rw [show nums (r :: t) = runF r ++ nums t by simp [nums]]
  refine List.pairwise_append.2 ⟨?_, ih (sane_tail h), ?_⟩
  ·unfold runF upF
   refine List.Pairwise.map _ ?_ List.pairwise_lt_range
   intro a b hab
   omega
  ·intro x hx y hy
   have g := sane_beyond h y ((nums_mem (sane_ok (sane_tail h))).1 hy)
   have := (runF_mem.1 hx).2
   omega
theorem sane_sing {l : List Int} (h : ∀ n ∈ l, -1099511627776 ≤ n ∧ n ≤ 1099511627776) (p : l.Pairwise (fun a b => a + 1 < b)) : sane (sing l) := by
 refine sane_pw.2 ⟨?_, ?_⟩
 ·intro r hr
  unfold sing at hr
  simp only [List.mem_map] at hr
  obtain ⟨n, hn, rfl⟩ := hr
  have := h n hn
  exact ⟨Int.le_refl _, this.1, this.2⟩
 ·unfold sing
  exact List.Pairwise.map _ (fun a b h => h) p
theorem fst_gap {k i j : Int} (k0 : k ≠ 0) (h : 0 ≤ i) (hij : i < j) (hj : j < cnt k) : fst k i + 1 < fst k j := by
 have n := unit_next h hij hj
 obtain ⟨a1, a2, a3, a4, a5⟩ := months h (show i < cnt k by omega) k0
 have m := mon_lt _ _ a1 a2
 omega
theorem lst_gap {k i j : Int} (k0 : k ≠ 0) (h : 0 ≤ i) (hij : i < j) (hj : j < cnt k) : lst k i + 1 < lst k j := by
 have n := unit_next h hij hj
 obtain ⟨a1, a2, a3, a4, a5⟩ := months (show 0 ≤ j by omega) hj k0
 have m := mon_lt _ _ a1 a2
 omega
theorem units_num {k : Int} {s : List R} {n : Int} (h : n ∈ nums (unitsR k s)) : 0 ≤ n ∧ n < cnt k ∧ memR s n := by
 have := (unitsR_mem k s n).1 ((nums_mem (sane_ok (unitsR_sane k s))).1 h)
 exact ⟨this.2.1, this.2.2, this.1⟩
theorem firs_sane {k : Int} (k0 : k ≠ 0) (s : List R) : sane (sing ((nums (unitsR k s)).map (firV k))) := by
 refine sane_sing ?_ ?_
 ·intro n hn
  simp only [List.mem_map] at hn
  obtain ⟨i, _, rfl⟩ := hn
  have := firV_bd k i
  omega
 ·refine List.pairwise_map.2 ((List.Pairwise.imp_of_mem ?_) (nums_lt (unitsR_sane k s)))
  intro a b ha hb hab
  obtain ⟨a1, a2, _⟩ := units_num ha
  obtain ⟨b1, b2, _⟩ := units_num hb
  rw [firV_in a1 a2, firV_in b1 b2]
  exact fst_gap k0 a1 hab b2
theorem lass_sane {k : Int} (k0 : k ≠ 0) (s : List R) : sane (sing ((nums (unitsR k s)).map (lasV k))) := by
 refine sane_sing ?_ ?_
 ·intro n hn
  simp only [List.mem_map] at hn
  obtain ⟨i, _, rfl⟩ := hn
  have := lasV_bd k i
  omega
 ·refine List.pairwise_map.2 ((List.Pairwise.imp_of_mem ?_) (nums_lt (unitsR_sane k s)))
  intro a b ha hb hab
  obtain ⟨a1, a2, _⟩ := units_num ha
  obtain ⟨b1, b2, _⟩ := units_num hb
  rw [lasV_in a1 a2, lasV_in b1 b2]
  exact lst_gap k0 a1 hab b2
theorem edgR_fir (k : Int) (s : List R) : edgR (firV k) k s = if edgB k s = true then (if k = 0 then unitsR k s else sing ((nums (unitsR k s)).map (firV k))) else [] := by
 unfold edgR
 by_cases h : k = 0
 ·rw [if_pos h, if_pos h]
 ·rw [if_neg h, if_neg h, nf_of_sane (firs_sane h s)]
theorem edgR_las (k : Int) (s : List R) : edgR (lasV k) k s = if edgB k s = true then (if k = 0 then unitsR k s else sing ((nums (unitsR k s)).map (lasV k))) else [] := by
 unfold edgR
 by_cases h : k = 0
 ·rw [if_pos h, if_pos h]
 ·rw [if_neg h, if_neg h, nf_of_sane (lass_sane h s)]
theorem edgR_fsane (k : Int) (s : List R) : sane (edgR (firV k) k s) := by
 unfold edgR
 split
 ·split
  ·exact unitsR_sane k s
  ·exact nf_sane _
 ·exact trivial
theorem edgR_lsane (k : Int) (s : List R) : sane (edgR (lasV k) k s) := by
 unfold edgR
 split
 ·split
  ·exact unitsR_sane k s
  ·exact nf_sane _
 ·exact trivial
theorem edgR_len (V : Int → Int) (k : Int) (s : List R) : (edgR V k s).length ≤ 400 := by
 unfold edgR edgB
 by_cases h : k = 0
 ·simp only [if_pos h]
  split
  ·rename_i g; exact of_decide_eq_true g
  ·simp
 ·simp only [if_neg h]
  split
  ·rename_i g
   have g := of_decide_eq_true g
   have := nf_len (sing ((nums (unitsR k s)).map V))
   rw [sing_len, List.length_map] at this
   omega
  ·simp
open Go.RowKit
theorem rshift_any (v : Value) (l : List R) (k : Int) (w : World) (hv : RunsAt w v l) (hl : I64R l) (hn : l.length ≤ 1000000) :
  Calls Tryz.prog 124 #[v, .int .i64 k] w fun e w' => ∃ v' : Value, e = .returned v' ∧ RunsAt w' v' (nf (shR k k (nf l))) ∧ Kp w w' := by
 obtain ⟨i0, hi, hz0, hz1, hz2⟩ := info_parts infoR
 have mx := mixedS
 by_cases h1 : 2199023255552 < k
 ·have q1 : decide (2199023255552 < k) = true := decide_eq_true h1
  rw [sh_out (nf_sane l) (.inr h1)]
  clear hv
  go_enter Tryz.func124, Tryz.ntmps124
  go_wp2
  go_ret
  exact ⟨_, rfl, .inl ⟨_, _, rfl, rfl⟩, Kp.refl _⟩
 ·have q1 : decide (2199023255552 < k) = false := decide_eq_false h1
  by_cases h2 : k < -2199023255552
  ·have q2 : decide (k < -2199023255552) = true := decide_eq_true h2
   rw [sh_out (nf_sane l) (.inl h2)]
   clear hv
   go_enter Tryz.func124, Tryz.ntmps124
   go_wp2
   go_ret
   exact ⟨_, rfl, .inl ⟨_, _, rfl, rfl⟩, Kp.refl _⟩
  ·have q2 : decide (k < -2199023255552) = false := decide_eq_false h2
   have k1 : -2199023255552 ≤ k := by omega
   have k2 : k ≤ 2199023255552 := by omega
   have C := Hd (asR_any v l w hv hl hn w (Kp.refl w))
   have nl := nf_len l
   have OK := Hd (sane_ok (nf_sane l))
   have SI := Hd (shR_i64 OK.out k1 k2 k1 k2)
   have hL : (nf l).length ≤ 1000000 := by omega
   clear hv hl nl hn h1 h2
   generalize nf l = L at *
   go_enter Tryz.func124, Tryz.ntmps124
   go_wp2_with fail
   refine (C.out).mono ?_
   rintro e w1 ⟨v1, rfl, R0, kk⟩
   have K1 := Hd kk
   have R1 := Hd R0
   obtain ⟨ad1, c1, rfl⟩ := R1.out.slice
   clear R0 kk C
   go_wp2
   go_loopw [6, 7] (fun u6 u7 wr => ∃ j : Nat, j ≤ L.length ∧ u7 = .int .i64 j ∧ Hid (wr.ownsRow w1.heap.size 42 2 u6 (shR k k (L.take j)).length (cellsR (shR k k (L.take j)))) ∧ Hid (Kp w1 wr)) (fun _ u7 _ => L.length - (intOf u7).toNat)
   case atStart => exact ⟨0, Nat.zero_le _, rfl, Hd (World.ownsRow_nil _ _ _ _), Hd (Kp.refl _)⟩
   case round =>
    obtain ⟨j, hj, rfl, O, K2⟩ := hrel
    by_cases hlt : j < L.length
    ·rcases R1.out with ⟨_, _, _, e⟩ | ⟨b0, off, cap, ev, hc, hm, hx⟩
     ·rw [e] at hlt; simp at hlt
     cases ev
     obtain ⟨d1, d2⟩ := rd_at hx K2.out j hlt
     have RD := Hd (fun w' (kk : Kp w1 w') => rd_at hx kk j hlt)
     clear hx hc hm
     obtain ⟨o1, o2, o3⟩ := OK.out _ (at_mem hlt)
     have S := Hd (shR_take k k L j hlt)
     have tl : (shR k k (L.take j)).length ≤ j := by rw [shR_len]; exact List.length_take_le _ _
     obtain ⟨lo, hi', ee⟩ : ∃ x y, at_ L j = (x, y) := ⟨_, _, rfl⟩
     rw [ee] at d1 d2 o1 o2 o3 S RD
     simp only at d1 d2 o1 o2 o3 S RD
     clear ee
     have hsz := K2.out.size
     have wa : IntKind.i64.wrap (lo + k) = lo + k := by rw [IntKind.wrap_i64]; omega
     have wb : IntKind.i64.wrap (hi' + k) = hi' + k := by rw [IntKind.wrap_i64]; omega
     have z0 : (0 : Int) ≤ (j : Int) := by omega
     have z1 : (j : Int) < (L.length : Int) := by omega
     have KS := Hd (fun w' (kk : Kp wr w') => RD.out _ (K2.out.trans kk))
     have KG := Hd (fun ws w' (kk : Kp wr ws) (g : ws.grownBy w' u6.ownBlock) => (show (w'.cell? ⟨b0, off + j * 2, none⟩ = some (.int .i64 lo) ∧ w'.cell? ⟨b0, off + j * 2 + 1, none⟩ = some (.int .i64 hi')) ∧ Kp w1 w' from
      have k5 : Kp w1 w' := Kp.grown (K2.out.trans kk) g (fun j hj => (O.out.lt j hj).1)
      ⟨RD.out _ k5, k5⟩))
     generalize shR k k (L.take j) = M at *
     go_wp2_with fail
     go_region_held3 (fun w' => w'.cell? ⟨b0, off + j * 2, none⟩ = some (.int .i64 lo) ∧ w'.cell? ⟨b0, off + j * 2 + 1, none⟩ = some (.int .i64 hi'))
      (first | assumption | exact KS.out _ (by first | exact Kp.drew _ | exact Kp.drewN _ _ | exact (Kp.drew _).trans (Kp.alloc _ _) | exact (Kp.drewN _ _).trans (Kp.alloc _ _)))
      (first | (refine step_append_lies _ rfl (.tmp 22) (.tmp 38) 34 rfl w1.heap.size 42 i0 (.agg #[.int .i64 0, .int .i64 0]) 2 16 Tryz.underlying34 hi hz0 hz1 hz2 rfl (by decide) u6 M.length (cellsR M) (by simp [Act.eval, Act.put]) (World.ownsRow.alloc O.out _) ⟨wr.heap.size, 0, none⟩ 1 1 [.int .i64 (lo + k), .int .i64 (hi' + k)] (by simp [Act.eval, Act.put]) rfl (cell_one_at _ _ _ _) (by intro u hu; simp at hu; rcases hu with rfl | rfl <;> rfl) (by decide) (by unfold maxLen; omega) (by omega) (by simp; omega) _ rfl ?_; intro g4 cap4 w4 hown4 hgrow4 hat4 hlt4; have kg4 := KG.out _ _ ((Kp.drew _).trans (Kp.alloc _ _)) hgrow4; have kg5 := kg4.1; have kg6 := kg4.2))
     all_goals go_wp2
     all_goals refine ⟨⟨j + 1, by omega, by go_num, Hd (by rw [S.out]; exact own_snoc hown4), Hd kg6⟩, by simp only [intOf]; omega⟩
    ·have A : L.take j = L := by rw [show j = L.length by omega, List.take_length]
     rw [A] at O
     clear A
     have q : decide ((j : Int) < L.length) = false := by simp; omega
     have C := Hd (rmake_any _ (shR k k L) wr (runsAt_own O.out) SI.out (by rw [shR_len]; exact hL))
     go_wp2_with fail
     refine (C.out).mono ?_
     rintro e w5 ⟨v5, rfl, own5, kk⟩
     have KK := Hd (K1.out.trans (K2.out.trans kk))
     have OO := Hd own5
     clear kk own5
     go_wp2
     go_ret
     exact ⟨_, rfl, OO.out, KK.out⟩
theorem rmeetW_any (v u : Value) (l m : List R) (w : World) (hv : RunsAt w v l) (hu : RunsAt w u m) (hl : I64R l) (hm : I64R m) (hn : l.length ≤ 2000) (hn2 : m.length ≤ 2000) :
  Calls Tryz.prog 67 #[v, u] w fun e w' => ∃ v' : Value, e = .returned v' ∧ w'.ownsRow w.heap.size 42 2 v' (interR l m).length (cellsR (interR l m)) ∧ Kp w w' := by
 obtain ⟨i0, hi, hz0, hz1, hz2⟩ := info_parts infoR
 have mx := mixedS
 have C1 := Hd (fun w' (k : Kp w w') => asR_any v l w' (hv.kp k) hl (by omega) w' (Kp.refl _))
 have C2 := Hd (fun w' (k : Kp w w') => asR_any u m w' (hu.kp k) hm (by omega) w' (Kp.refl _))
 have lA : (nf l).length ≤ 2000 := by have := nf_len l; omega
 have lB : (nf m).length ≤ 2000 := by have := nf_len m; omega
 have FIN := Hd (mtL_inter l m)
 have OKA := Hd (sane_ok (nf_sane l))
 have OKB := Hd (sane_ok (nf_sane m))
 clear hv hu hl hm hn hn2
 generalize nf l = A at *
 generalize nf m = B at *
 generalize interR l m = RES at *
 go_enter Tryz.func67, Tryz.ntmps67
 go_wp2_with fail
 refine (C1.out _ (Kp.refl _)).mono ?_
 rintro e w1 ⟨v1, rfl, R0, k2⟩
 have C3 := Hd (C2.out w1 k2)
 clear C2
 go_wp2_with fail
 refine (C3.out).mono ?_
 rintro e w2 ⟨v2, rfl, R02, kk2⟩
 have K2 := Hd (k2.trans kk2)
 have R2 := Hd R02
 have R1 := Hd (R0.kp kk2)
 obtain ⟨ad1, c1, rfl⟩ := R1.out.slice
 obtain ⟨ad2, c2, rfl⟩ := R2.out.slice
 clear R0 R02 kk2 k2 C1 C3
 go_wp2
 go_loopw [7, 8] (fun u7 u8 wr => ∃ i : Nat, i ≤ A.length ∧ u8 = .int .i64 i ∧ Hid (wr.ownsRow w2.heap.size 42 2 u7 (mtO A B i 0).length (cellsR (mtO A B i 0))) ∧ Hid (Kp w2 wr)) (fun _ u8 _ => A.length - (intOf u8).toNat)
 case atStart => exact ⟨0, Nat.zero_le _, rfl, Hd (by rw [mtO_start]; exact World.ownsRow_nil _ _ _ _), Hd (Kp.refl _)⟩
 case round =>
  obtain ⟨wo, hwo⟩ : ∃ x : World, x = wr := ⟨wr, rfl⟩
  subst hwo
  obtain ⟨i, hiA, rfl, O, K3⟩ := hrel
  by_cases hlt : i < A.length
  ·have z0 : (0 : Int) ≤ (i : Int) := by omega
   have z1 : (i : Int) < (A.length : Int) := by omega
   have ROW := Hd (mtO_row A B i hlt)
   go_wp2
   go_loopw [7, 9] (fun u7 u9 wq => ∃ k : Nat, k ≤ B.length ∧ u9 = .int .i64 k ∧ Hid (wq.ownsRow w2.heap.size 42 2 u7 (mtO A B i k).length (cellsR (mtO A B i k))) ∧ Hid (Kp w2 wq)) (fun _ u9 _ => B.length - (intOf u9).toNat)
   case atStart => exact ⟨0, Nat.zero_le _, rfl, O, K3⟩
   case round =>
    obtain ⟨wq, hwq⟩ : ∃ x : World, x = wr := ⟨wr, rfl⟩
    subst hwq
    clear O K3
    obtain ⟨k, hkB, rfl, O, K3⟩ := hrel
    by_cases hlk : k < B.length
    ·rcases R1.out with ⟨_, _, _, e⟩ | ⟨b1, off1, cap1, ev, hc, hm, hx⟩
     ·rw [e] at hlt; simp at hlt
     cases ev
     rcases R2.out with ⟨_, _, _, e⟩ | ⟨b2, off2, cap2, ev, hc2, hm2, hx2⟩
     ·rw [e] at hlk; simp at hlk
     cases ev
     have RD := Hd (fun w' (kk : Kp w2 w') => And.intro (rd_at hx kk i hlt) (rd_at hx2 kk k hlk))
     clear hx hc hm hx2 hc2 hm2
     obtain ⟨p1, p2, p3⟩ := OKA.out _ (at_mem hlt)
     obtain ⟨s1, s2, s3⟩ := OKB.out _ (at_mem hlk)
     have NX := Hd (mtO_next A B i k hlk)
     have ml : (mtO A B i k).length ≤ 2000 * 2000 := mtO_len hlt hkB lA lB
     obtain ⟨al, ah, ea⟩ : ∃ x y, at_ A i = (x, y) := ⟨_, _, rfl⟩
     obtain ⟨bl, bh, eb⟩ : ∃ x y, at_ B k = (x, y) := ⟨_, _, rfl⟩
     rw [ea] at p1 p2 p3 NX RD
     rw [eb] at s1 s2 s3 NX RD
     simp only at p1 p2 p3 s1 s2 s3 RD
     clear ea eb
     have y0 : (0 : Int) ≤ (k : Int) := by omega
     have y1 : (k : Int) < (B.length : Int) := by omega
     have hsz := K3.out.size
     have KS := Hd (fun w' (kk : Kp wq w') => RD.out _ (K3.out.trans kk))
     have KG := Hd (fun ws w' (kk : Kp wq ws) (g : ws.grownBy w' u7.ownBlock) => (show ((w'.cell? ⟨b1, off1 + i * 2, none⟩ = some (.int .i64 al) ∧ w'.cell? ⟨b1, off1 + i * 2 + 1, none⟩ = some (.int .i64 ah)) ∧ (w'.cell? ⟨b2, off2 + k * 2, none⟩ = some (.int .i64 bl) ∧ w'.cell? ⟨b2, off2 + k * 2 + 1, none⟩ = some (.int .i64 bh))) ∧ Kp w2 w' from
      have k5 : Kp w2 w' := Kp.grown (K3.out.trans kk) g (fun j hj => (O.out.lt j hj).1)
      ⟨RD.out _ k5, k5⟩))
     obtain ⟨⟨d1, d2⟩, d3, d4⟩ := RD.out _ K3.out
     generalize mtO A B i k = M at *
     by_cases c : max al bl ≤ min ah bh
     ·have q1 : decide (max al bl ≤ min ah bh) = true := decide_eq_true c
      have EN := Hd (show ov (al, ah) (bl, bh) = [(max al bl, min ah bh)] by unfold ov; simp only; rw [if_pos c])
      clear c
      go_wp2_with fail
      go_quiet (fail)
      have KQ := Hd (Kp.drewN wq nq)
      have O2 := Hd (own_kp O.out KQ.out)
      generalize wq.drewN nq = wy at KQ O2 ⊢
      clear d1 d2 d3 d4
      obtain ⟨⟨d1, d2⟩, d3, d4⟩ := KS.out _ KQ.out
      have hsy := Nat.le_trans hsz KQ.out.size
      go_wp2_with fail
      go_region_held3 (fun w' => (w'.cell? ⟨b1, off1 + i * 2, none⟩ = some (.int .i64 al) ∧ w'.cell? ⟨b1, off1 + i * 2 + 1, none⟩ = some (.int .i64 ah)) ∧ (w'.cell? ⟨b2, off2 + k * 2, none⟩ = some (.int .i64 bl) ∧ w'.cell? ⟨b2, off2 + k * 2 + 1, none⟩ = some (.int .i64 bh)))
       (first | assumption | exact KS.out _ (KQ.out.trans (by first | exact Kp.drew _ | exact Kp.drewN _ _ | exact (Kp.drew _).trans (Kp.alloc _ _) | exact (Kp.drewN _ _).trans (Kp.alloc _ _))))
       (first | (refine step_append_lies _ rfl (.tmp 49) (.tmp 73) 34 rfl w2.heap.size 42 i0 (.agg #[.int .i64 0, .int .i64 0]) 2 16 Tryz.underlying34 hi hz0 hz1 hz2 rfl (by decide) u7 M.length (cellsR M) (by simp [Act.eval, Act.put]) (World.ownsRow.alloc O2.out _) ⟨wy.heap.size, 0, none⟩ 1 1 [.int .i64 (max al bl), .int .i64 (min ah bh)] (by simp [Act.eval, Act.put]) rfl (cell_one_at _ _ _ _) (by intro u hu; simp at hu; rcases hu with rfl | rfl <;> rfl) (by decide) (by unfold maxLen; omega) (by omega) (by simp; omega) _ rfl ?_; intro g4 cap4 w4 hown4 hgrow4 hat4 hlt4; have kg4 := KG.out _ _ (KQ.out.trans ((Kp.drew _).trans (Kp.alloc _ _))) hgrow4; have kg5 := kg4.1; have kg6 := kg4.2))
      all_goals go_wp2
      all_goals refine ⟨⟨k + 1, by omega, by go_num, Hd (by rw [NX.out, EN.out]; exact own_snoc hown4), Hd kg6⟩, by simp only [intOf]; omega⟩
     ·have q1 : decide (max al bl ≤ min ah bh) = false := decide_eq_false c
      have EN := Hd (show ov (al, ah) (bl, bh) = [] by unfold ov; simp only; rw [if_neg c])
      clear c
      go_wp2_with fail
      go_quiet (fail)
      go_wp2
      refine ⟨⟨k + 1, by omega, by go_num, Hd (by rw [NX.out, EN.out, List.append_nil]; exact own_drewN O.out _), Hd (K3.out.trans (Kp.drewN _ _))⟩, by simp only [intOf]; omega⟩
    ·obtain rfl : k = B.length := by omega
     have q0 : decide ((B.length : Int) < B.length) = false := by simp
     have O2 := O.out
     rw [ROW.out] at O2
     have O3 := Hd O2
     clear O O2
     go_wp2
     refine ⟨⟨i + 1, by omega, by go_num, O3, K3⟩, by simp only [intOf]; omega⟩
  ·obtain rfl : i = A.length := by omega
   have q0 : decide ((A.length : Int) < A.length) = false := by simp
   have O2 := O.out
   rw [mtO_end, FIN.out] at O2
   have O3 := Hd (own_mono O2 K2.out.size)
   clear O O2
   go_wp2
   go_ret
   exact ⟨_, rfl, O3.out, K2.out.trans K3.out⟩
theorem rmeet_any (v u : Value) (l m : List R) (w : World) (hv : RunsAt w v l) (hu : RunsAt w u m) (hl : I64R l) (hm : I64R m) (hn : l.length ≤ 2000) (hn2 : m.length ≤ 2000) :
  Calls Tryz.prog 67 #[v, u] w fun e w' => ∃ v' : Value, e = .returned v' ∧ RunsAt w' v' (interR l m) ∧ Kp w w' :=
 (rmeetW_any v u l m w hv hu hl hm hn hn2).mono (by rintro e w' ⟨v', rfl, o, k⟩; exact ⟨v', rfl, runsAt_own o, k⟩)
theorem rclipW_any (v : Value) (l : List R) (lo hi' : Int) (w : World) (hv : RunsAt w v l) (hl : I64R l) (hn : l.length ≤ 2000) (hi64 : I64R [(lo, hi')]) :
  Calls Tryz.prog 137 #[v, .int .i64 lo, .int .i64 hi'] w fun e w' => ∃ v' : Value, e = .returned v' ∧ w'.ownsRow w.heap.size 42 2 v' (interR l [(lo, hi')]).length (cellsR (interR l [(lo, hi')])) ∧ Kp w w' := by
 have C := Hd (fun t => rmeetW_any v (.slice (some ⟨w.heap.size, 0, none⟩) 1 1) l [(lo, hi')] (w.alloc (.cells #[.int .i64 lo, .int .i64 hi'] t)) (hv.kp (Kp.alloc _ _)) (lit_at w [(lo, hi')] _ _ rfl (by simp [maxLen])) hl hi64 hn (by simp))
 clear hv hl
 generalize interR l [(lo, hi')] = RES at *
 go_enter Tryz.func137, Tryz.ntmps137
 go_wp2_with fail
 refine (C.out _).mono ?_
 rintro e w1 ⟨v1, rfl, R1, kk⟩
 have RR := Hd (own_mono R1 (show w.heap.size ≤ _ by simp))
 have K := Hd kk
 clear R1 kk C
 go_wp2
 go_ret
 exact ⟨_, rfl, RR.out, (Kp.alloc _ _).trans K.out⟩
theorem rclip_any (v : Value) (l : List R) (lo hi' : Int) (w : World) (hv : RunsAt w v l) (hl : I64R l) (hn : l.length ≤ 2000) (hi64 : I64R [(lo, hi')]) :
  Calls Tryz.prog 137 #[v, .int .i64 lo, .int .i64 hi'] w fun e w' => ∃ v' : Value, e = .returned v' ∧ RunsAt w' v' (interR l [(lo, hi')]) ∧ Kp w w' :=
 (rclipW_any v l lo hi' w hv hl hn hi64).mono (by rintro e w' ⟨v', rfl, o, k⟩; exact ⟨v', rfl, runsAt_own o, k⟩)
theorem runits_any (k : Int) (v : Value) (s : List R) (w : World) (hv : RunsAt w v s) (hl : I64R s) (hn : s.length ≤ 2000) :
  Calls Tryz.prog 225 #[.int .i64 k, v] w fun e w' => ∃ v' : Value, e = .returned v' ∧ RunsAt w' v' (unitsR k s) ∧ Kp w w' := by
 have c := cnt_bd k
 have C := Hd (rcount_any k w)
 have D := Hd (rclip_any v s 0 (cnt k - 1) w hv hl hn (i64_one (by omega) (by omega) (by omega) (by omega)))
 have E : unitsR k s = interR s [(0, cnt k - 1)] := rfl
 rw [E]
 generalize interR s [(0, cnt k - 1)] = RES at *
 generalize cnt k = m at *
 clear hv hl E
 go_enter Tryz.func225, Tryz.ntmps225
 go_wp2_with fail
 refine (C.out).mono ?_
 rintro e w' ⟨rfl, rfl⟩
 go_wp2_with fail
 refine (D.out).mono ?_
 rintro e w1 ⟨v1, rfl, R1, kk⟩
 have RR := Hd R1
 have K := Hd kk
 clear R1 kk C D
 go_wp2
 go_ret
 exact ⟨_, rfl, RR.out, K.out⟩
theorem rends0_any (b : Bool) (v : Value) (s : List R) (w : World) (hv : RunsAt w v s) (hl : I64R s) (hn : s.length ≤ 2000) :
  Calls Tryz.prog 183 #[.int .i64 0, v, .bool b] w fun e w' => ∃ v' : Value, e = .returned (.tuple #[v', .bool (edgB 0 s)]) ∧ RunsAt w' v' (unitsR 0 s) ∧ Kp w w' := by
 have C := Hd (runits_any 0 v s w hv hl hn)
 have EB : edgB 0 s = decide ((unitsR 0 s).length ≤ 400) := by unfold edgB; rw [if_pos rfl]
 rw [EB]
 clear hv hl EB
 generalize unitsR 0 s = L at *
 have E : decide ((L.length : Int) ≤ 400) = decide (L.length ≤ 400) := by
  by_cases h : L.length ≤ 400
  ·rw [decide_eq_true h, dT]
  ·rw [decide_eq_false h, dF]
 obtain ⟨D, hD⟩ : ∃ D, decide (L.length ≤ 400) = D := ⟨_, rfl⟩
 rw [hD]
 rw [hD] at E
 clear hD
 go_enter Tryz.func183, Tryz.ntmps183
 go_wp2_with fail
 refine (C.out).mono ?_
 rintro e w1 ⟨v1, rfl, R1, kk⟩
 obtain ⟨a1, c1, rfl⟩ := R1.slice
 have RR := Hd R1
 have K := Hd kk
 clear R1 kk C
 go_wp2
 go_ret2
 exact ⟨_, rfl, RR.out, K.out⟩
theorem rendsfalse_any (k : Int) (k0 : k ≠ 0) (v : Value) (s : List R) (w : World) (hv : RunsAt w v s) (hl : I64R s) (hn : s.length ≤ 2000) :
  Calls Tryz.prog 183 #[.int .i64 k, v, .bool false] w fun e w' => ∃ v' : Value, e = .returned (.tuple #[v', .bool (decide ((nums (unitsR k s)).length ≤ 400))]) ∧ RunsAt w' v' (if (nums (unitsR k s)).length ≤ 400 then sing ((nums (unitsR k s)).map (firV k)) else []) ∧ Kp w w' := by
 obtain ⟨i0, hi, hz0, hz1, hz2⟩ := info_parts infoR
 have C := Hd (runits_any k v s w hv hl hn)
 have q0 : (k == 0) = false := by simp [k0]
 have cb := cnt_bd k
 have hu := fun r hr => unitsR_in (k := k) (s := s) (r := r) hr
 have hlen := unitsR_len (k := k) hn
 clear hv hl
 generalize unitsR k s = L at *
 obtain ⟨bb, hbb⟩ : ∃ b, decide ((nums L).length ≤ 400) = b := ⟨_, rfl⟩
 obtain ⟨rl, hrl⟩ : ∃ l, (if (nums L).length ≤ 400 then sing ((nums L).map (firV k)) else []) = l := ⟨_, rfl⟩
 rw [hbb, hrl]
 have HB := Hd hbb
 have HL := Hd hrl
 clear hbb hrl
 go_enter Tryz.func183, Tryz.ntmps183
 go_wp2_with fail
 refine (C.out).mono ?_
 rintro e w1 ⟨v1, rfl, R1, kk⟩
 obtain ⟨a1, c1, rfl⟩ := R1.slice
 have RR := Hd R1
 have K1 := Hd kk
 clear R1 kk C
 go_wp2
 go_loopw [9, 10] (fun u9 i wr => ∃ j : Nat, j ≤ L.length ∧ i = .int .i64 j ∧ Hid ((nums (L.take j)).length ≤ 400) ∧ Hid (wr.ownsRow w1.heap.size 42 2 u9 (sing ((nums (L.take j)).map (firV k))).length (cellsR (sing ((nums (L.take j)).map (firV k))))) ∧ Hid (Kp w1 wr)) (fun _ i _ => L.length - (intOf i).toNat)
 case atStart => exact ⟨0, Nat.zero_le _, rfl, Hd (by simp [nums]), Hd (World.ownsRow_nil _ _ _ _), Hd (Kp.refl _)⟩
 case round =>
  obtain ⟨j, hj, rfl, NL, O, K2⟩ := hrel
  obtain ⟨wo, HW⟩ : ∃ x, x = wr := ⟨_, rfl⟩
  subst HW
  by_cases hlt : j < L.length
  ·rcases RR.out with ⟨_, _, _, e⟩ | ⟨b0, off, cap, ev, hc, hm, hx⟩
   ·rw [e] at hlt; simp at hlt
   cases ev
   have NT := Hd (nums_take L j hlt)
   have NP := Hd (fun m hm => nums_part L j m hlt hm)
   obtain ⟨h1, h2, h3⟩ := hu (at_ L j) (by unfold at_; simp [List.getD, hlt])
   obtain ⟨c1, c2⟩ := hx j hlt
   have D1 := Hd (fun wx (kx : Kp w1 wx) => (Below.cell (p := ⟨b0, off + j * 2, none⟩) kx (World.block_lt_of_cell? _ _ c1)).trans c1)
   have D2 := Hd (fun wx (kx : Kp w1 wx) => (Below.cell (p := ⟨b0, off + j * 2 + 1, none⟩) kx (World.block_lt_of_cell? _ _ c2)).trans c2)
   clear hx hc hm c1 c2
   obtain ⟨lo, hi', ee⟩ : ∃ x y, at_ L j = (x, y) := ⟨_, _, rfl⟩
   rw [ee] at D1 D2 h1 h2 h3 NT NP
   simp only at D1 D2 h1 h2 h3 NP
   clear ee
   have hsz := K2.out.size
   have z0 : (0 : Int) ≤ (j : Int) := by omega
   have z1 : (j : Int) < (L.length : Int) := by omega
   have d1 := D1.out _ K2.out
   go_wp2
   go_loopw [9, 11] (fun u9 i wr => ∃ m : Nat, m ≤ (hi' - lo + 1).toNat ∧ i = .int .i64 (lo + (m : Int)) ∧ Hid ((nums (L.take j) ++ upF lo m).length ≤ 400) ∧ Hid (wr.ownsRow w1.heap.size 42 2 u9 (sing ((nums (L.take j) ++ upF lo m).map (firV k))).length (cellsR (sing ((nums (L.take j) ++ upF lo m).map (firV k))))) ∧ Hid (Kp w1 wr)) (fun _ i _ => (hi' + 1 - intOf i).toNat)
   case atStart => exact ⟨0, Nat.zero_le _, by simp, by rw [show upF lo 0 = [] from rfl, List.append_nil]; exact NL, by rw [show upF lo 0 = [] from rfl, List.append_nil]; exact O, K2⟩
   case round =>
    obtain ⟨m, hm, rfl, NM, OM, K4⟩ := hrel
    have d2 := D2.out _ K4.out
    by_cases hlm : lo + (m : Int) ≤ hi'
    ·have q1 : decide (lo + (m : Int) ≤ hi') = true := decide_eq_true hlm
     have hm1 : m + 1 ≤ (hi' - lo + 1).toNat := by omega
     have pf := NP.out (m + 1) hm1
     rw [upF_succ, ← List.append_assoc] at pf
     obtain ⟨P, hP⟩ : ∃ P, nums (L.take j) ++ upF lo m = P := ⟨_, rfl⟩
     rw [hP] at pf NM OM
     have S := Hd (show sing ((nums (L.take j) ++ upF lo (m + 1)).map (firV k)) = sing (P.map (firV k)) ++ [(firV k (lo + (m : Int)), firV k (lo + (m : Int)))] by rw [upF_succ, ← List.append_assoc, hP]; simp [sing])
     have SL := Hd (show (nums (L.take j) ++ upF lo (m + 1)).length = P.length + 1 by rw [upF_succ, ← List.append_assoc, hP]; simp)
     have PF := Hd pf.length_le
     have tl : (sing (P.map (firV k))).length = P.length := by rw [sing_len, List.length_map]
     have nm := NM.out
     clear pf hP
     generalize sing (P.map (firV k)) = M at *
     have F := Hd (fun wx => rfirst_any k (lo + (m : Int)) wx)
     have G := Hd (fun wx => rlast_any k (lo + (m : Int)) wx)
     have hsz4 := K4.out.size
     have tl2 : M.length ≤ 400 := by omega
     have TL := Hd tl
     clear tl
     go_wp2_with fail
     refine (F.out _).mono ?_
     rintro e w' ⟨rfl, rfl⟩
     generalize firV k (lo + (m : Int)) = d at *
     by_cases h5 : M.length = 400
     ·have q5 : decide ((400 : Int) < (M.length : Int) + 1) = true := by simp; omega
      have q6 : decide ((400 : Int) < ((M.length + 1 : Nat) : Int)) = true := by simp; omega
      go_wp2_with (at_builtin; refine wpList_app rfl (.tmp 59) (.tmp 63) 34 rfl w1.heap.size 42 i0 (.agg #[.int .i64 0, .int .i64 0]) 2 16 Tryz.underlying34 hi hz0 hz1 hz2 rfl (by decide) _ _ _ rfl (OM.out.alloc _) _ _ _ rfl (one_src _ _ _ _) rfl (by intro u hu; simp at hu; rcases hu with rfl | rfl <;> rfl) (by unfold maxLen; omega) (by omega) (by simp; omega) ?_; intro v4 w6 hown4 hgrow4 hat4; obtain ⟨a4, cp4, rfl⟩ := own_slice hown4)
      have EN : Hid (¬ (nums L).length ≤ 400) := by have z := PF.out; have z2 := TL.out; simp only [List.length_append, List.length_singleton] at z; unfold Hid; omega
      have KK := Hd (K1.out.trans (Kp.grown (K4.out.trans (Kp.alloc wr (.cells #[.int .i64 d, .int .i64 d] 42))) hgrow4 (fun j hj => (OM.out.lt j hj).1)))
      clear hown4 hgrow4 hat4
      try go_wp2
      go_ret2
      exact ⟨.slice none 0 0, by (rw [← HB.out, decide_eq_false EN.out]; try rfl), by rw [← HL.out, if_neg EN.out]; exact .inl ⟨_, _, rfl, rfl⟩, KK.out⟩
     ·have q5 : decide ((400 : Int) < (M.length : Int) + 1) = false := by simp; omega
      have h6 : (M.length : Int) + 1 ≤ 400 := by omega
      have q6 : decide ((400 : Int) < ((M.length + 1 : Nat) : Int)) = false := by simp; omega
      go_wp2_with (at_builtin; refine wpList_app rfl (.tmp 59) (.tmp 63) 34 rfl w1.heap.size 42 i0 (.agg #[.int .i64 0, .int .i64 0]) 2 16 Tryz.underlying34 hi hz0 hz1 hz2 rfl (by decide) _ _ _ rfl (OM.out.alloc _) _ _ _ rfl (one_src _ _ _ _) rfl (by intro u hu; simp at hu; rcases hu with rfl | rfl <;> rfl) (by unfold maxLen; omega) (by omega) (by simp; omega) ?_; intro v4 w6 hown4 hgrow4 hat4; obtain ⟨a4, cp4, rfl⟩ := own_slice hown4)
      have KK := Hd (Kp.grown (K4.out.trans (Kp.alloc wr (.cells #[.int .i64 d, .int .i64 d] 42))) hgrow4 (fun j hj => (OM.out.lt j hj).1))
      have OO := Hd (own_snoc hown4)
      clear hown4 hgrow4 hat4
      try go_wp2
      go_roundw
      case rel => exact ⟨m + 1, hm1, by go_num, Hd (by have := TL.out; rw [SL.out]; omega), Hd (by rw [S.out]; exact OO.out), KK⟩
      case measure => simp [intOf]; omega
    ·have q1 : decide (lo + (m : Int) ≤ hi') = false := decide_eq_false hlm
     have em : m = (hi' - lo + 1).toNat := by omega
     have EE : nums (L.take (j + 1)) = nums (L.take j) ++ upF lo m := by rw [NT.out]; unfold runF; simp only; rw [← em]
     rw [← EE] at NM OM
     go_wp2
     go_roundw
     case rel => exact ⟨j + 1, by omega, by go_num, NM, OM, K4⟩
     case measure => simp [intOf]; omega
  ·have A : L.take j = L := by rw [show j = L.length by omega, List.take_length]
   rw [A] at O NL
   have q : decide ((j : Int) < L.length) = false := by simp; omega
   obtain ⟨a9, c9, rfl⟩ := own_slice O.out
   have RES := Hd (runsAt_own O.out)
   clear A O
   have KK := Hd (K1.out.trans K2.out)
   go_wp2
   go_ret2
   refine ⟨.slice a9 _ c9, by (rw [← HB.out, decide_eq_true NL.out]; try rfl), by rw [← HL.out, if_pos NL.out]; exact RES.out, KK.out⟩
theorem rendstrue_any (k : Int) (k0 : k ≠ 0) (v : Value) (s : List R) (w : World) (hv : RunsAt w v s) (hl : I64R s) (hn : s.length ≤ 2000) :
  Calls Tryz.prog 183 #[.int .i64 k, v, .bool true] w fun e w' => ∃ v' : Value, e = .returned (.tuple #[v', .bool (decide ((nums (unitsR k s)).length ≤ 400))]) ∧ RunsAt w' v' (if (nums (unitsR k s)).length ≤ 400 then sing ((nums (unitsR k s)).map (lasV k)) else []) ∧ Kp w w' := by
 obtain ⟨i0, hi, hz0, hz1, hz2⟩ := info_parts infoR
 have C := Hd (runits_any k v s w hv hl hn)
 have q0 : (k == 0) = false := by simp [k0]
 have cb := cnt_bd k
 have hu := fun r hr => unitsR_in (k := k) (s := s) (r := r) hr
 have hlen := unitsR_len (k := k) hn
 clear hv hl
 generalize unitsR k s = L at *
 obtain ⟨bb, hbb⟩ : ∃ b, decide ((nums L).length ≤ 400) = b := ⟨_, rfl⟩
 obtain ⟨rl, hrl⟩ : ∃ l, (if (nums L).length ≤ 400 then sing ((nums L).map (lasV k)) else []) = l := ⟨_, rfl⟩
 rw [hbb, hrl]
 have HB := Hd hbb
 have HL := Hd hrl
 clear hbb hrl
 go_enter Tryz.func183, Tryz.ntmps183
 go_wp2_with fail
 refine (C.out).mono ?_
 rintro e w1 ⟨v1, rfl, R1, kk⟩
 obtain ⟨a1, c1, rfl⟩ := R1.slice
 have RR := Hd R1
 have K1 := Hd kk
 clear R1 kk C
 go_wp2
 go_loopw [9, 10] (fun u9 i wr => ∃ j : Nat, j ≤ L.length ∧ i = .int .i64 j ∧ Hid ((nums (L.take j)).length ≤ 400) ∧ Hid (wr.ownsRow w1.heap.size 42 2 u9 (sing ((nums (L.take j)).map (lasV k))).length (cellsR (sing ((nums (L.take j)).map (lasV k))))) ∧ Hid (Kp w1 wr)) (fun _ i _ => L.length - (intOf i).toNat)
 case atStart => exact ⟨0, Nat.zero_le _, rfl, Hd (by simp [nums]), Hd (World.ownsRow_nil _ _ _ _), Hd (Kp.refl _)⟩
 case round =>
  obtain ⟨j, hj, rfl, NL, O, K2⟩ := hrel
  obtain ⟨wo, HW⟩ : ∃ x, x = wr := ⟨_, rfl⟩
  subst HW
  by_cases hlt : j < L.length
  ·rcases RR.out with ⟨_, _, _, e⟩ | ⟨b0, off, cap, ev, hc, hm, hx⟩
   ·rw [e] at hlt; simp at hlt
   cases ev
   have NT := Hd (nums_take L j hlt)
   have NP := Hd (fun m hm => nums_part L j m hlt hm)
   obtain ⟨h1, h2, h3⟩ := hu (at_ L j) (by unfold at_; simp [List.getD, hlt])
   obtain ⟨c1, c2⟩ := hx j hlt
   have D1 := Hd (fun wx (kx : Kp w1 wx) => (Below.cell (p := ⟨b0, off + j * 2, none⟩) kx (World.block_lt_of_cell? _ _ c1)).trans c1)
   have D2 := Hd (fun wx (kx : Kp w1 wx) => (Below.cell (p := ⟨b0, off + j * 2 + 1, none⟩) kx (World.block_lt_of_cell? _ _ c2)).trans c2)
   clear hx hc hm c1 c2
   obtain ⟨lo, hi', ee⟩ : ∃ x y, at_ L j = (x, y) := ⟨_, _, rfl⟩
   rw [ee] at D1 D2 h1 h2 h3 NT NP
   simp only at D1 D2 h1 h2 h3 NP
   clear ee
   have hsz := K2.out.size
   have z0 : (0 : Int) ≤ (j : Int) := by omega
   have z1 : (j : Int) < (L.length : Int) := by omega
   have d1 := D1.out _ K2.out
   go_wp2
   go_loopw [9, 11] (fun u9 i wr => ∃ m : Nat, m ≤ (hi' - lo + 1).toNat ∧ i = .int .i64 (lo + (m : Int)) ∧ Hid ((nums (L.take j) ++ upF lo m).length ≤ 400) ∧ Hid (wr.ownsRow w1.heap.size 42 2 u9 (sing ((nums (L.take j) ++ upF lo m).map (lasV k))).length (cellsR (sing ((nums (L.take j) ++ upF lo m).map (lasV k))))) ∧ Hid (Kp w1 wr)) (fun _ i _ => (hi' + 1 - intOf i).toNat)
   case atStart => exact ⟨0, Nat.zero_le _, by simp, by rw [show upF lo 0 = [] from rfl, List.append_nil]; exact NL, by rw [show upF lo 0 = [] from rfl, List.append_nil]; exact O, K2⟩
   case round =>
    obtain ⟨m, hm, rfl, NM, OM, K4⟩ := hrel
    have d2 := D2.out _ K4.out
    by_cases hlm : lo + (m : Int) ≤ hi'
    ·have q1 : decide (lo + (m : Int) ≤ hi') = true := decide_eq_true hlm
     have hm1 : m + 1 ≤ (hi' - lo + 1).toNat := by omega
     have pf := NP.out (m + 1) hm1
     rw [upF_succ, ← List.append_assoc] at pf
     obtain ⟨P, hP⟩ : ∃ P, nums (L.take j) ++ upF lo m = P := ⟨_, rfl⟩
     rw [hP] at pf NM OM
     have S := Hd (show sing ((nums (L.take j) ++ upF lo (m + 1)).map (lasV k)) = sing (P.map (lasV k)) ++ [(lasV k (lo + (m : Int)), lasV k (lo + (m : Int)))] by rw [upF_succ, ← List.append_assoc, hP]; simp [sing])
     have SL := Hd (show (nums (L.take j) ++ upF lo (m + 1)).length = P.length + 1 by rw [upF_succ, ← List.append_assoc, hP]; simp)
     have PF := Hd pf.length_le
     have tl : (sing (P.map (lasV k))).length = P.length := by rw [sing_len, List.length_map]
     have nm := NM.out
     clear pf hP
     generalize sing (P.map (lasV k)) = M at *
     have F := Hd (fun wx => rfirst_any k (lo + (m : Int)) wx)
     have G := Hd (fun wx => rlast_any k (lo + (m : Int)) wx)
     have hsz4 := K4.out.size
     have tl2 : M.length ≤ 400 := by omega
     have TL := Hd tl
     clear tl
     go_wp2_with fail
     refine (F.out _).mono ?_
     rintro e w' ⟨rfl, rfl⟩
     go_wp2_with fail
     refine (G.out _).mono ?_
     rintro e w' ⟨rfl, rfl⟩
     generalize lasV k (lo + (m : Int)) = d at *
     by_cases h5 : M.length = 400
     ·have q5 : decide ((400 : Int) < (M.length : Int) + 1) = true := by simp; omega
      have q6 : decide ((400 : Int) < ((M.length + 1 : Nat) : Int)) = true := by simp; omega
      go_wp2_with (at_builtin; refine wpList_app rfl (.tmp 59) (.tmp 63) 34 rfl w1.heap.size 42 i0 (.agg #[.int .i64 0, .int .i64 0]) 2 16 Tryz.underlying34 hi hz0 hz1 hz2 rfl (by decide) _ _ _ rfl (OM.out.alloc _) _ _ _ rfl (one_src _ _ _ _) rfl (by intro u hu; simp at hu; rcases hu with rfl | rfl <;> rfl) (by unfold maxLen; omega) (by omega) (by simp; omega) ?_; intro v4 w6 hown4 hgrow4 hat4; obtain ⟨a4, cp4, rfl⟩ := own_slice hown4)
      have EN : Hid (¬ (nums L).length ≤ 400) := by have z := PF.out; have z2 := TL.out; simp only [List.length_append, List.length_singleton] at z; unfold Hid; omega
      have KK := Hd (K1.out.trans (Kp.grown (K4.out.trans (Kp.alloc wr (.cells #[.int .i64 d, .int .i64 d] 42))) hgrow4 (fun j hj => (OM.out.lt j hj).1)))
      clear hown4 hgrow4 hat4
      try go_wp2
      go_ret2
      exact ⟨.slice none 0 0, by (rw [← HB.out, decide_eq_false EN.out]; try rfl), by rw [← HL.out, if_neg EN.out]; exact .inl ⟨_, _, rfl, rfl⟩, KK.out⟩
     ·have q5 : decide ((400 : Int) < (M.length : Int) + 1) = false := by simp; omega
      have h6 : (M.length : Int) + 1 ≤ 400 := by omega
      have q6 : decide ((400 : Int) < ((M.length + 1 : Nat) : Int)) = false := by simp; omega
      go_wp2_with (at_builtin; refine wpList_app rfl (.tmp 59) (.tmp 63) 34 rfl w1.heap.size 42 i0 (.agg #[.int .i64 0, .int .i64 0]) 2 16 Tryz.underlying34 hi hz0 hz1 hz2 rfl (by decide) _ _ _ rfl (OM.out.alloc _) _ _ _ rfl (one_src _ _ _ _) rfl (by intro u hu; simp at hu; rcases hu with rfl | rfl <;> rfl) (by unfold maxLen; omega) (by omega) (by simp; omega) ?_; intro v4 w6 hown4 hgrow4 hat4; obtain ⟨a4, cp4, rfl⟩ := own_slice hown4)
      have KK := Hd (Kp.grown (K4.out.trans (Kp.alloc wr (.cells #[.int .i64 d, .int .i64 d] 42))) hgrow4 (fun j hj => (OM.out.lt j hj).1))
      have OO := Hd (own_snoc hown4)
      clear hown4 hgrow4 hat4
      try go_wp2
      go_roundw
      case rel => exact ⟨m + 1, hm1, by go_num, Hd (by have := TL.out; rw [SL.out]; omega), Hd (by rw [S.out]; exact OO.out), KK⟩
      case measure => simp [intOf]; omega
    ·have q1 : decide (lo + (m : Int) ≤ hi') = false := decide_eq_false hlm
     have em : m = (hi' - lo + 1).toNat := by omega
     have EE : nums (L.take (j + 1)) = nums (L.take j) ++ upF lo m := by rw [NT.out]; unfold runF; simp only; rw [← em]
     rw [← EE] at NM OM
     go_wp2
     go_roundw
     case rel => exact ⟨j + 1, by omega, by go_num, NM, OM, K4⟩
     case measure => simp [intOf]; omega
  ·have A : L.take j = L := by rw [show j = L.length by omega, List.take_length]
   rw [A] at O NL
   have q : decide ((j : Int) < L.length) = false := by simp; omega
   obtain ⟨a9, c9, rfl⟩ := own_slice O.out
   have RES := Hd (runsAt_own O.out)
   clear A O
   have KK := Hd (K1.out.trans K2.out)
   go_wp2
   go_ret2
   refine ⟨.slice a9 _ c9, by (rw [← HB.out, decide_eq_true NL.out]; try rfl), by rw [← HL.out, if_pos NL.out]; exact RES.out, KK.out⟩
theorem rendsF_all (k : Int) (v : Value) (s : List R) (w : World) (hv : RunsAt w v s) (hl : I64R s) (hn : s.length ≤ 2000) :
  Calls Tryz.prog 183 #[.int .i64 k, v, .bool false] w fun e w' => ∃ (v' : Value) (l : List R), e = .returned (.tuple #[v', .bool (edgB k s)]) ∧ RunsAt w' v' l ∧ (edgB k s = true → l = edgR (firV k) k s) ∧ Kp w w' := by
 by_cases h : k = 0
 ·subst h
  refine (rends0_any false v s w hv hl hn).mono ?_
  rintro e w' ⟨v', rfl, r, kk⟩
  exact ⟨v', _, rfl, r, fun g => by unfold edgR; rw [if_pos g, if_pos rfl], kk⟩
 ·refine (rendsfalse_any k h v s w hv hl hn).mono ?_
  rintro e w' ⟨v', rfl, r, kk⟩
  have E : edgB k s = decide ((nums (unitsR k s)).length ≤ 400) := by unfold edgB; rw [if_neg h]
  refine ⟨v', _, by rw [E], r, fun g => ?_, kk⟩
  rw [edgR_fir, if_pos g, if_neg h]
  rw [E] at g
  rw [if_pos (of_decide_eq_true g)]
theorem rendsL_all (k : Int) (v : Value) (s : List R) (w : World) (hv : RunsAt w v s) (hl : I64R s) (hn : s.length ≤ 2000) :
  Calls Tryz.prog 183 #[.int .i64 k, v, .bool true] w fun e w' => ∃ (v' : Value) (l : List R), e = .returned (.tuple #[v', .bool (edgB k s)]) ∧ RunsAt w' v' l ∧ (edgB k s = true → l = edgR (lasV k) k s) ∧ Kp w w' := by
 by_cases h : k = 0
 ·subst h
  refine (rends0_any true v s w hv hl hn).mono ?_
  rintro e w' ⟨v', rfl, r, kk⟩
  exact ⟨v', _, rfl, r, fun g => by unfold edgR; rw [if_pos g, if_pos rfl], kk⟩
 ·refine (rendstrue_any k h v s w hv hl hn).mono ?_
  rintro e w' ⟨v', rfl, r, kk⟩
  have E : edgB k s = decide ((nums (unitsR k s)).length ≤ 400) := by unfold edgB; rw [if_neg h]
  refine ⟨v', _, by rw [E], r, fun g => ?_, kk⟩
  rw [edgR_las, if_pos g, if_neg h]
  rw [E] at g
  rw [if_pos (of_decide_eq_true g)]
theorem rstarts_any (k : Int) (v : Value) (s : List R) (w : World) (hv : RunsAt w v s) (hl : I64R s) (hn : s.length ≤ 2000) :
  Calls Tryz.prog 120 #[.int .i64 k, v] w fun e w' => ∃ v' : Value, e = .returned (.tuple #[v', .bool (edgB k s)]) ∧ RunsAt w' v' (edgR (firV k) k s) ∧ Kp w w' := by
 have C := Hd (rendsF_all k v s w hv hl hn)
 have N := Hd (show edgB k s = false → edgR (firV k) k s = [] from fun h => by unfold edgR; rw [h]; rfl)
 generalize edgR (firV k) k s = L at *
 clear hv hl
 generalize edgB k s = b at *
 cases b with
 | true =>
  go_enter Tryz.func120, Tryz.ntmps120
  go_wp2_with fail
  refine (C.out).mono ?_
  rintro e w1 ⟨v1, l, rfl, R1, el, kk⟩
  obtain rfl := el trivial
  obtain ⟨a1, c1, rfl⟩ := R1.slice
  have RR := Hd R1
  have K := Hd kk
  clear R1 kk C el
  go_wp2
  go_ret2
  exact ⟨_, rfl, RR.out, K.out⟩
 | false =>
  obtain rfl := N.out rfl
  go_enter Tryz.func120, Tryz.ntmps120
  go_wp2_with fail
  refine (C.out).mono ?_
  rintro e w1 ⟨v1, l, rfl, R1, el, kk⟩
  obtain ⟨a1, c1, rfl⟩ := R1.slice
  have K := Hd kk
  clear R1 kk C el
  go_wp2
  go_ret2
  exact ⟨_, rfl, .inl ⟨_, _, rfl, rfl⟩, K.out⟩
theorem rends_any (k : Int) (v : Value) (s : List R) (w : World) (hv : RunsAt w v s) (hl : I64R s) (hn : s.length ≤ 2000) :
  Calls Tryz.prog 121 #[.int .i64 k, v] w fun e w' => ∃ v' : Value, e = .returned (.tuple #[v', .bool (edgB k s)]) ∧ RunsAt w' v' (edgR (lasV k) k s) ∧ Kp w w' := by
 have C := Hd (rendsL_all k v s w hv hl hn)
 have N := Hd (show edgB k s = false → edgR (lasV k) k s = [] from fun h => by unfold edgR; rw [h]; rfl)
 generalize edgR (lasV k) k s = L at *
 clear hv hl
 generalize edgB k s = b at *
 cases b with
 | true =>
  go_enter Tryz.func121, Tryz.ntmps121
  go_wp2_with fail
  refine (C.out).mono ?_
  rintro e w1 ⟨v1, l, rfl, R1, el, kk⟩
  obtain rfl := el trivial
  obtain ⟨a1, c1, rfl⟩ := R1.slice
  have RR := Hd R1
  have K := Hd kk
  clear R1 kk C el
  go_wp2
  go_ret2
  exact ⟨_, rfl, RR.out, K.out⟩
 | false =>
  obtain rfl := N.out rfl
  go_enter Tryz.func121, Tryz.ntmps121
  go_wp2_with fail
  refine (C.out).mono ?_
  rintro e w1 ⟨v1, l, rfl, R1, el, kk⟩
  obtain ⟨a1, c1, rfl⟩ := R1.slice
  have K := Hd kk
  clear R1 kk C el
  go_wp2
  go_ret2
  exact ⟨_, rfl, .inl ⟨_, _, rfl, rfl⟩, K.out⟩
theorem ofV_eq {k n d : Int} (h : 0 ≤ n) (h' : n < cnt k) (a : fst k n ≤ d) (b : d ≤ lst k n) : okO k d = true ∧ ofV k d = n := by
 obtain ⟨o, x, y⟩ := (range_day (day := d) h (Int.le_refl n) h').1 ⟨a, b⟩
 exact ⟨o, by unfold ofV; rw [if_pos o]; omega⟩
theorem okU_of {k i : Int} (h : 0 ≤ i) (h' : i < cnt k) : okU k i = true := okU_yes h h'
theorem sum_nums : ∀ (l : List R), (∀ r ∈ l, r.1 ≤ r.2) → sumR l = (nums l).length := by
 intro l
 induction l with
 | nil => intro _; rfl
 | cons r t ih =>
  intro h
  have h1 := h r (List.mem_cons_self)
  rw [show nums (r :: t) = runF r ++ nums t by simp [nums], List.length_append, sumR, ih (fun q hq => h q (List.mem_cons_of_mem _ hq))]
  unfold runF
  rw [upF_len]
  omega
theorem edgR_fmem {k : Int} {s : List R} (hb : edgB k s = true) (d : Int) : memR (edgR (firV k) k s) d ↔ okO k d = true ∧ memR s (unum k d) ∧ fst k (unum k d) = d := by
 have U : ∀ n, 0 ≤ n → n < cnt k → fst k n = d → okO k d = true ∧ unum k d = n := by
  intro n h1 h2 h3
  have := span_bd h1 h2
  obtain ⟨o, e⟩ := ofV_eq (d := d) h1 h2 (by omega) (by omega)
  exact ⟨o, by unfold ofV at e; rwa [if_pos o] at e⟩
 by_cases h : k = 0
 ·subst h
  unfold edgR
  rw [if_pos hb, if_pos rfl, unitsR_mem]
  constructor
  ·rintro ⟨h1, h2, h3⟩
   obtain ⟨o, e⟩ := U d h2 h3 (fst_zero d)
   exact ⟨o, by rw [e]; exact h1, by rw [e]; exact fst_zero d⟩
  ·rintro ⟨o, h1, h2⟩
   obtain ⟨u1, u2, u3, u4⟩ := unum_ok o
   rw [fst_zero] at h2
   rw [h2] at h1 u1 u2
   exact ⟨h1, u1, u2⟩
 ·rw [edgR_fir, if_pos hb, if_neg h]
  constructor
  ·rintro ⟨r, hr, g1, g2, _⟩
   unfold sing at hr
   simp only [List.mem_map] at hr
   obtain ⟨m, ⟨n, hn, rfl⟩, rfl⟩ := hr
   simp only at g1 g2
   obtain ⟨n1, n2, n3⟩ := units_num hn
   rw [firV_in n1 n2] at g1 g2
   obtain ⟨o, e⟩ := U n n1 n2 (by omega)
   exact ⟨o, by rw [e]; exact n3, by rw [e]; omega⟩
  ·rintro ⟨o, h1, h2⟩
   obtain ⟨u1, u2, u3, u4⟩ := unum_ok o
   have nm : unum k d ∈ nums (unitsR k s) := (nums_mem (sane_ok (unitsR_sane k s))).2 ((unitsR_mem k s _).2 ⟨h1, u1, u2⟩)
   have sp := span_bd u1 u2
   refine ⟨(d, d), ?_, Int.le_refl _, Int.le_refl _, by omega, by omega⟩
   unfold sing
   simp only [List.mem_map]
   exact ⟨d, ⟨_, nm, by rw [firV_in u1 u2]; exact h2⟩, rfl⟩
end Go.Proofs.YtcooaoponkkpeaaGreatDoor
