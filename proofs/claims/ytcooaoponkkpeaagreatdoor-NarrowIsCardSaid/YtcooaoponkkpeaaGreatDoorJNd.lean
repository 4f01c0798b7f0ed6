import Derived.Test.YtcooaoponkkpeaaGreatDoorGBa
import Derived.Test.YtcooaoponkkpeaaGreatDoorJF
import Derived.Test.YtcooaoponkkpeaaGreatDoorJNc
set_option maxHeartbeats 16000000
set_option maxRecDepth 100000
namespace Go.Proofs.YtcooaoponkkpeaaGreatDoor
open Go.RowKit
set_option linter.unusedVariables false
set_option linter.unusedSimpArgs false
theorem rputO_any (base : Nat) (v : Value) (s : List R) (r : R) (w : World) (hv : RunsAt w v s) (hO : OwnR w base v s) (hb : base ≤ w.heap.size) (hs : sane s) (hn : s.length ≤ 1000000) (b1 : -9223372036854775808 ≤ r.1) (b2 : r.2 ≤ 9223372036854775807) :
  Calls Tryz.prog 140 #[v, .agg #[.int .i64 r.1, .int .i64 r.2]] w fun e w' => ∃ v' : Value, e = .returned v' ∧ OwnR w' base v' (putR s r) ∧ Kp w w' := by
 obtain ⟨i0, hi, hz0, hz1, hz2⟩ := info_parts infoR
 obtain ⟨ad, c, rfl⟩ := hv.slice
 obtain ⟨lo, hi'⟩ := r
 simp only at b1 b2
 obtain ⟨xl, hxl⟩ : ∃ x, (if lo < -1099511627776 then -1099511627776 else lo) = x := ⟨_, rfl⟩
 obtain ⟨xh, hxh⟩ : ∃ x, (if 1099511627776 < hi' then 1099511627776 else hi') = x := ⟨_, rfl⟩
 have mxl : max lo (-1099511627776) = xl := by omega
 have mxh : min hi' 1099511627776 = xh := by omega
 have CL : clipR (lo, hi') = (xl, xh) := by
  unfold clipR; simp only; rw [← hxl, ← hxh]; congr 1 <;> split <;> omega
 have c1 : -1099511627776 ≤ xl := by rw [← hxl]; split <;> omega
 have c2 : xh ≤ 1099511627776 := by rw [← hxh]; split <;> omega
 have HV := Hd hv
 have HO := Hd hO
 have HBS := Hd hb
 clear hv hO hb
 by_cases hx : xl ≤ xh
 ·have E : putR s (lo, hi') = (s.foldl pst ([], (xl, xh), [])).1 ++ (s.foldl pst ([], (xl, xh), [])).2.1 :: (s.foldl pst ([], (xl, xh), [])).2.2 := by
   unfold putR
   rw [CL, if_neg (by simp only; omega), pst_put s [] (xl, xh) hs ⟨hx, c1, c2⟩]
   rfl
  rw [E]
  clear E CL
  have OK := Hd (sane_ok hs)
  have g0 : decide (xh < xl) = false := dF
  have g0' : ¬ xh < xl := by omega
  clear hs
  have hsl : (s.length : Int) ≤ 1000000 := by omega
  go_enter Tryz.func140, Tryz.ntmps140
  go_wp2
  go_loopw [6, 7, 8] (fun u6 u7 u8 wr => ∃ (k : Nat) (bf af : List R) (yl yh : Int), k ≤ s.length ∧ u8 = .int .i64 k ∧ Hid ((s.take k).foldl pst ([], (xl, xh), []) = (bf, (yl, yh), af)) ∧ yl ≤ yh ∧ -1099511627776 ≤ yl ∧ yh ≤ 1099511627776 ∧ bf.length + af.length ≤ k ∧
   Hid (wr.ownsRow (w.heap.size + 2) 42 2 u6 bf.length (cellsR bf)) ∧ Hid (wr.ownsRow (w.heap.size + 2) 42 2 u7 af.length (cellsR af)) ∧ Hid (Apart u6 u7) ∧
   wr.cell? ⟨w.heap.size + 1, 0, none⟩ = some (.int .i64 yl) ∧ wr.cell? ⟨w.heap.size + 1, 1, none⟩ = some (.int .i64 yh) ∧ wr.frozen? ⟨w.heap.size + 1, 0, none⟩ = false ∧ wr.frozen? ⟨w.heap.size + 1, 1, none⟩ = false ∧ w.heap.size + 2 ≤ wr.heap.size ∧ Hid (Kp w wr)) (fun _ _ u8 _ => s.length - (intOf u8).toNat)
  case atStart => exact ⟨0, [], [], xl, xh, Nat.zero_le _, rfl, Hd rfl, hx, c1, c2, Nat.le_refl _, Hd (World.ownsRow_nil _ _ _ _), Hd (World.ownsRow_nil _ _ _ _), Hd (Apart.nil _), by simp [mxl, mxh], by simp [mxl, mxh], by simp, by simp, by simp, Hd ((Kp.alloc _ _).trans (Kp.alloc _ _))⟩
  case round =>
   clear hx c1 c2 g0 g0' hxl hxh b1 b2 mxl mxh
   obtain ⟨k, bf, af, yl, yh, hk, rfl, ST, hy, y1, y2, hlen, O6, O7, AP, k1, k2, k3, k4, hsz, K1⟩ := hrel
   by_cases hlt : k < s.length
   ·rcases HV.out with ⟨_, _, _, e⟩ | ⟨b, off, cap, ev, hc, hm, hx⟩
    ·rw [e] at hlt; simp at hlt
    cases ev
    obtain ⟨d1, d2⟩ := rd_at hx K1.out k hlt
    clear hx
    obtain ⟨o1, o2, o3⟩ := OK.out _ (at_mem hlt)
    have S := Hd (show (s.take (k + 1)).foldl pst ([], (xl, xh), []) = pst (bf, (yl, yh), af) (at_ s k) by rw [take_at s k hlt, List.foldl_append, ST.out]; rfl)
    obtain ⟨lo1, hi1, ee⟩ : ∃ x y, at_ s k = (x, y) := ⟨_, _, rfl⟩
    rw [ee] at d1 d2 o1 o2 o3 S
    simp only at d1 d2 o1 o2 o3
    clear ee ST
    have z0 : (0 : Int) ≤ (k : Int) := by omega
    have z1 : (k : Int) < (s.length : Int) := by omega
    have w1' : IntKind.i64.wrap (yl - 1) = yl - 1 := by rw [IntKind.wrap_i64]; omega
    have w2' : IntKind.i64.wrap (yh + 1) = yh + 1 := by rw [IntKind.wrap_i64]; omega
    have ne6 := Hd (own_ge O6.out (B := w.heap.size + 1) (by omega))
    have ne7 := Hd (own_ge O7.out (B := w.heap.size + 1) (by omega))
    have ge6 := Hd (fun j (hj : u6.ownBlock = some j) => (show w.heap.size ≤ j by have := (O6.out.lt j hj).1; omega))
    have ge7 := Hd (fun j (hj : u7.ownBlock = some j) => (show w.heap.size ≤ j by have := (O7.out.lt j hj).1; omega))
    by_cases q1 : hi1 < yl - 1
    ·have S2 := Hd (S.out.trans (show pst (bf, (yl, yh), af) (lo1, hi1) = (bf ++ [(lo1, hi1)], (yl, yh), af) by unfold pst; simp only; rw [if_pos q1]))
     have q1d : decide (hi1 < yl - 1) = true := decide_eq_true q1
     go_wp2_with fail
     go_quiet (fail)
     go_wp2_with (at_builtin; refine wpList_app rfl (.tmp 55) (.tmp 60) 34 rfl (w.heap.size + 2) 42 i0 (.agg #[.int .i64 0, .int .i64 0]) 2 16 Tryz.underlying34 hi hz0 hz1 hz2 rfl (by decide) _ _ _ rfl ((own_drewN O6.out _).alloc _) _ _ _ rfl (one_src _ _ _ _) (by simp [cellsR_length]) (by first | exact cells_one _ | (intro u hu; simp at hu; rcases hu with rfl | rfl <;> rfl)) (by unfold maxLen; omega) (by omega) (by first | omega | (simp; omega)) ?_; intro v1 w1 hown1 hgrow1 hat1)
     go_roundw
     case rel => exact ⟨k + 1, bf ++ [(lo1, hi1)], af, yl, yh, by omega, by go_num, S2, hy, y1, y2, by simp; omega, Hd (own_snoc hown1), Hd (own_apart ((own_drewN O7.out _).alloc _) hgrow1 AP.out), Hd (apart_step AP.out ((own_drewN O7.out _).alloc _) hat1), (grown_cell1 hgrow1 (show w.heap.size + 1 < wr.heap.size by omega) ne6.out).trans k1, (grown_cell1 hgrow1 (show w.heap.size + 1 < wr.heap.size by omega) ne6.out).trans k2, (grown_frozen1 hgrow1 (show w.heap.size + 1 < wr.heap.size by omega) ne6.out).trans k3, (grown_frozen1 hgrow1 (show w.heap.size + 1 < wr.heap.size by omega) ne6.out).trans k4, by have := hgrow1.size; simp at this; omega, Hd (Kp.grown (K1.out.trans ((Kp.drewN _ _).trans (Kp.alloc _ _))) hgrow1 ge6.out)⟩
     case measure => simp [intOf]; omega
    ·have q1d : decide (hi1 < yl - 1) = false := decide_eq_false q1
     by_cases q2 : yh + 1 < lo1
     ·have S2 := Hd (S.out.trans (show pst (bf, (yl, yh), af) (lo1, hi1) = (bf, (yl, yh), af ++ [(lo1, hi1)]) by unfold pst; simp only; rw [if_neg q1, if_pos q2]))
      have q2d : decide (yh + 1 < lo1) = true := decide_eq_true q2
      go_wp2_with fail
      go_quiet (fail)
      go_wp2_with fail
      go_quiet (fail)
      go_wp2_with (at_builtin; refine wpList_app rfl (.tmp 72) (.tmp 77) 34 rfl (w.heap.size + 2) 42 i0 (.agg #[.int .i64 0, .int .i64 0]) 2 16 Tryz.underlying34 hi hz0 hz1 hz2 rfl (by decide) _ _ _ rfl ((own_drewN O7.out _).alloc _) _ _ _ rfl (one_src _ _ _ _) (by simp [cellsR_length]) (by first | exact cells_one _ | (intro u hu; simp at hu; rcases hu with rfl | rfl <;> rfl)) (by unfold maxLen; omega) (by omega) (by first | omega | (simp; omega)) ?_; intro v1 w1 hown1 hgrow1 hat1)
      go_roundw
      case rel => exact ⟨k + 1, bf, af ++ [(lo1, hi1)], yl, yh, by omega, by go_num, S2, hy, y1, y2, by simp; omega, Hd (own_apart ((own_drewN O6.out _).alloc _) hgrow1 AP.out.symm), Hd (own_snoc hown1), Hd (apart_step AP.out.symm ((own_drewN O6.out _).alloc _) hat1).symm, (grown_cell1 hgrow1 (show w.heap.size + 1 < wr.heap.size by omega) ne7.out).trans k1, (grown_cell1 hgrow1 (show w.heap.size + 1 < wr.heap.size by omega) ne7.out).trans k2, (grown_frozen1 hgrow1 (show w.heap.size + 1 < wr.heap.size by omega) ne7.out).trans k3, (grown_frozen1 hgrow1 (show w.heap.size + 1 < wr.heap.size by omega) ne7.out).trans k4, by have := hgrow1.size; simp at this; omega, Hd (Kp.grown (K1.out.trans ((Kp.drewN _ _).trans (Kp.alloc _ _))) hgrow1 ge7.out)⟩
      case measure => simp [intOf]; omega
     ·have q2d : decide (yh + 1 < lo1) = false := decide_eq_false q2
      obtain ⟨nl, hnl⟩ : ∃ x, (if lo1 < yl then lo1 else yl) = x := ⟨_, rfl⟩
      obtain ⟨nh, hnh⟩ : ∃ x, (if yh < hi1 then hi1 else yh) = x := ⟨_, rfl⟩
      have S2 := Hd (S.out.trans (show pst (bf, (yl, yh), af) (lo1, hi1) = (bf, (nl, nh), af) by unfold pst; simp only; rw [if_neg q1, if_neg q2, ← hnl, ← hnh]; congr 2; congr 1 <;> split <;> omega))
      have mnl := Hd (show min yl lo1 = nl by omega)
      have mnh := Hd (show max yh hi1 = nh by omega)
      have m1 : -1099511627776 ≤ nl ∧ nl ≤ yl := by rw [← hnl]; split <;> omega
      have m2 : nh ≤ 1099511627776 ∧ yh ≤ nh := by rw [← hnh]; split <;> omega
      go_wp2_with fail
      go_quiet (fail)
      go_wp2_with fail
      go_quiet (fail)
      go_wp2_with fail
      go_region
      all_goals go_wp2
      refine ⟨⟨k + 1, bf, af, nl, nh, by omega, by go_num, S2, by omega, m1.1, m2.1, by omega, Hd (ownsRow_setCell_below (ownsRow_setCell_below (own_drewN O6.out _) (by show w.heap.size + 1 < _; omega) _) (by show w.heap.size + 1 < _; omega) _), Hd (ownsRow_setCell_below (ownsRow_setCell_below (own_drewN O7.out _) (by show w.heap.size + 1 < _; omega) _) (by show w.heap.size + 1 < _; omega) _), AP, ?_, ?_, ?_, ?_, ?_, ?_⟩, by simp only [intOf]; omega⟩
      ·rw [← mnl.out, World.cell?_setCell_other _ _ _ _ (by simp)]
       exact World.cell?_setCell_same' _ _ _ (by rw [show (World.cell? (wr.drewN _) _) = _ from k1]; rfl)
      ·rw [← mnh.out]
       refine World.cell?_setCell_same' _ _ _ ?_
       rw [World.cell?_setCell_other _ _ _ _ (by simp), show (World.cell? (wr.drewN _) _) = _ from k2]
       rfl
      ·rw [World.frozen?_setCell, World.frozen?_setCell]; exact k3
      ·rw [World.frozen?_setCell, World.frozen?_setCell]; exact k4
      ·simp [World.setCell]; omega
      ·exact Hd (Below.setCell (Below.setCell (K1.out.trans (Kp.drewN _ _)) (by show w.heap.size ≤ w.heap.size + 1; omega) _) (by show w.heap.size ≤ w.heap.size + 1; omega) _)
   ·obtain rfl : k = s.length := by omega
    rw [List.take_length] at ST
    have ge6 := Hd (fun j (hj : u6.ownBlock = some j) => (show w.heap.size ≤ j by have := (O6.out.lt j hj).1; omega))
    have q : decide ((s.length : Int) < s.length) = false := by simp
    go_wp2_with (first | (at_builtin; refine wpList_app rfl (.tmp 79) (.tmp 81) 34 rfl (w.heap.size + 2) 42 i0 (.agg #[.int .i64 0, .int .i64 0]) 2 16 Tryz.underlying34 hi hz0 hz1 hz2 rfl (by decide) _ _ _ rfl (O6.out.alloc _) _ _ _ rfl (one_src _ _ _ _) (by simp [cellsR_length]) (by intro u hu; simp at hu; rcases hu with rfl | rfl <;> rfl) (by unfold maxLen; omega) (by omega) (by simp; omega) ?_; intro v1 w1 hown1 hgrow1 hat1) | (at_builtin; refine wpList_app rfl (.tmp 83) (.tmp 84) 34 rfl (w.heap.size + 2) 42 i0 (.agg #[.int .i64 0, .int .i64 0]) 2 16 Tryz.underlying34 hi hz0 hz1 hz2 rfl (by decide) _ _ _ rfl (own_snoc hown1) _ _ _ rfl (runsAt_own (own_apart (O7.out.alloc _) hgrow1 AP.out)).src (cellsR_length _) (cells_one _) (by simp; unfold maxLen; omega) (by simp; omega) (by have := hgrow1.size; simp at this; omega) ?_; intro v2 w2 hown2 hgrow2 hat2))
    go_ret
    refine ⟨_, rfl, ?_, ?_⟩
    ·rw [ST.out]
     have := own_len hown2
     rw [List.append_assoc] at this
     exact own_mono this (show base ≤ w.heap.size + 2 from Nat.le_trans HBS.out (by omega))
    ·exact Kp.grown (Kp.grown (K1.out.trans (Kp.alloc _ _)) hgrow1 ge6.out) hgrow2 (fun j hj => by have := (hown1.lt j hj).1; omega)
 ·have E : putR s (lo, hi') = s := by
   unfold putR
   rw [CL, if_pos (by simp only; omega)]
  rw [E]
  have g0 : decide (xh < xl) = true := dT
  clear E CL hs c1 c2
  go_enter Tryz.func140, Tryz.ntmps140
  go_wp2
  go_ret
  exact ⟨_, rfl, own_kp HO.out ((Kp.alloc _ _).trans (Kp.alloc _ _)), (Kp.alloc _ _).trans (Kp.alloc _ _)⟩
theorem rmakeO_any (v : Value) (l : List R) (w : World) (hv : RunsAt w v l) (hl : I64R l) (hn : l.length ≤ 1000000) :
  Calls Tryz.prog 85 #[v] w fun e w' => ∃ v' : Value, e = .returned v' ∧ OwnR w' w.heap.size v' (nf l) ∧ Kp w w' := by
 obtain ⟨ad, c, rfl⟩ := hv.slice
 have HV := Hd hv
 have HL := Hd hl
 clear hv hl
 have hsl : (l.length : Int) ≤ 1000000 := by omega
 go_enter Tryz.func85, Tryz.ntmps85
 go_wp2
 go_loopw [3, 4] (fun u3 u4 wr => ∃ (k : Nat), k ≤ l.length ∧ u4 = .int .i64 k ∧ Hid (OwnR wr w.heap.size u3 (nf (l.take k))) ∧ Hid (Kp w wr)) (fun _ u4 _ => l.length - (intOf u4).toNat)
 case atStart => exact ⟨0, Nat.zero_le _, rfl, Hd (World.ownsRow_nil _ _ _ _), Hd (Kp.refl _)⟩
 case round =>
  obtain ⟨k, hk, rfl, RA, K1⟩ := hrel
  by_cases hlt : k < l.length
  ·rcases HV.out with ⟨_, _, _, e⟩ | ⟨b, off, cap, ev, hc, hm, hx⟩
   ·rw [e] at hlt; simp at hlt
   cases ev
   obtain ⟨d1, d2⟩ := rd_at hx K1.out k hlt
   clear hx
   have bd := I64R.at_ HL.out hlt
   have tl := nf_take_len l k
   have C := Hd (rputO_any w.heap.size u3 (nf (l.take k)) (at_ l k) wr (OwnR.runs RA.out) RA.out K1.out.size (nf_sane _) (by omega) bd.1 bd.2.2.2)
   rw [← nf_next l k hlt] at C
   obtain ⟨lo1, hi1, ee⟩ : ∃ x y, at_ l k = (x, y) := ⟨_, _, rfl⟩
   rw [ee] at d1 d2 C
   simp only at d1 d2 C
   clear ee tl bd
   have z0 : (0 : Int) ≤ (k : Int) := by omega
   have z1 : (k : Int) < (l.length : Int) := by omega
   go_wp2_with fail
   refine (C.out).mono ?_
   rintro e w1 ⟨v1, rfl, hv1, k1⟩
   have KK := Hd (K1.out.trans k1)
   clear k1
   go_wp2
   go_roundw
   case rel => exact ⟨k + 1, by omega, by go_num, Hd hv1, KK⟩
   case measure => simp [intOf]; omega
  ·have A : l.take k = l := by rw [show k = l.length by omega, List.take_length]
   rw [A] at RA
   clear A
   have q : decide ((k : Int) < l.length) = false := by simp; omega
   go_wp2
   go_ret
   exact ⟨_, rfl, RA.out, K1.out⟩
theorem niunitsO_any (f : LF) (va vb vm : Value) (m : List LF) (w : World) (h : LeafOk w f va vb) (hs : setB f.u f.a = true) (hn : (nums f.a).length ≤ 1000) (hm : LeavesAt w vm m) (hl : LsOk m) :
  Calls Tryz.prog 83 #[leafV f va vb, vm] w fun e w' => ∃ v' x, e = .returned v' ∧ x.map Prod.fst = usL f.u f.a m ∧ OwnV w' w.heap.size x ∧ w'.ownsRow w.heap.size 44 4 v' x.length (cellsV x) ∧ Kp w w' := by
 obtain ⟨sf, u, a, bf⟩ := f
 obtain ⟨aa, ca, rfl⟩ := h.a.slice
 obtain ⟨ab, cb, rfl⟩ := h.b.slice
 obtain ⟨adm, cpm, rfl⟩ := hm.slice
 obtain ⟨i0, hi, hz0, hz1, hz2⟩ := info_parts infoR
 have na := h.na
 have ok := sane_ok (setB_sane hs)
 simp only at na hs ok
 simp only [leafV] at *
 obtain ⟨V3, hVb⟩ : ∃ x, x = w.alloc (.cells #[.bool sf, .int .i64 u, .slice aa a.length ca, .slice ab bf.length cb] 44) := ⟨_, rfl⟩
 have kab : Kp w V3 := by rw [hVb]; exact Kp.alloc _ _
 have gqb0 : V3.heap[w.heap.size]? = some (.cells #[.bool sf, .int .i64 u, .slice aa a.length ca, .slice ab bf.length cb] 44 (0, 0)) := by rw [hVb]; exact heap_at _ _ _ (by first | rfl | simp)
 have KSb := Hd (fun w' (kq : Kp V3 w') => show w'.cell? ⟨w.heap.size, 0, none⟩ = some (.bool sf) ∧ w'.cell? ⟨w.heap.size, 1, none⟩ = some (.int .i64 u) ∧ w'.cell? ⟨w.heap.size, 2, none⟩ = some (.slice aa a.length ca) ∧ w'.cell? ⟨w.heap.size, 3, none⟩ = some (.slice ab bf.length cb) ∧ Kp V3 w' from ⟨(row4 (heap_block kq gqb0)).1, (row4 (heap_block kq gqb0)).2.1, (row4 (heap_block kq gqb0)).2.2.1, (row4 (heap_block kq gqb0)).2.2.2, kq⟩)
 have GQb0 := Hd gqb0
 have HVb := Hd hVb
 have KB := Hd kab
 clear hVb kab gqb0
 have kkV3 : Kp V3 V3 := Kp.refl _
 have HA := Hd (h.a.kp KB.out)
 have CF := Hd (fun x w1 => rfirst_any u x w1)
 have CL := Hd (fun x w1 => rlast_any u x w1)
 have CI := Hd (fun x w1 (kk : Kp V3 w1) (hx : memR a x) => rInside_any _ m (firV u x) (lasV u x) w1 (hm.kp (KB.out.trans kk)) hl (by have := un_bd hs hx; omega) (by have := un_bd hs hx; omega) (by have := un_bd hs hx; omega) (by have := un_bd hs hx; omega))
 have MB := Hd (fun i (hi : i < a.length) => ok _ (at_mem hi))
 have MM := Hd (fun i (hi : i < a.length) x (h1 : (at_ a i).1 ≤ x) (h2 : x ≤ (at_ a i).2) => span_sane (setB_sane hs) (at_mem hi) h1 h2)
 have MC := Hd (fun x (hx : memR a x) => setB_mem hs hx)
 have AX := Hd (fun i t => acc_next (inP u m) a i t)
 have AR := Hd (fun i t (h : i < a.length) e => acc_row (inP u m) a (i := i) (t := t) h e)
 have AL := Hd (fun i t (h : i < a.length) ht => acc_len (inP u m) a (i := i) (t := t) h ht)
 have AE := Hd (acc_all (inP u m) a)
 have A0 := Hd (acc_zero (inP u m) a)
 have SI := Hd (show I64R (selR (inP u m) (nums a)) from sel_i64 fun n hn => by
  have q := setB_mem hs ((nums_mem (sane_ok (setB_sane hs))).1 hn)
  have := cnt_top u
  omega)
 have CT := Hd (cnt_top u)
 have sl := sel_len (inP u m) (nums a)
 have DF := Hd (show usL u a m = if (selR (inP u m) (nums a)).length = 0 then [] else [⟨false, u, nf (selR (inP u m) (nums a)), []⟩] from rfl)
 have IP := Hd (fun x => show inB m (firV u x) (lasV u x) = inP u m x from rfl)
 generalize usL u a m = DX at *
 generalize accN (inP u m) a = AC at *
 generalize selR (inP u m) (nums a) = SX at *
 generalize (nums a).length = nn at *
 clear h hm hl hs ok
 go_enter Tryz.func83, Tryz.ntmps83
 go_wp2
 rw [← HVb.out]
 go_loopw [5, 6] (fun q iv wr => ∃ i : Nat, i ≤ a.length ∧ iv = .int .i64 i ∧ Hid (OwnR wr V3.heap.size q (AC i 0)) ∧ Hid (Kp V3 wr)) (fun _ iv _ => a.length - (intOf iv).toNat)
 case atStart => exact ⟨0, Nat.zero_le _, rfl, Hd (by rw [A0.out]; exact World.ownsRow_nil _ _ _ _), Hd (Kp.refl _)⟩
 case round =>
  obtain ⟨i, hi2, rfl, RO, J⟩ := hrel
  have ro := RO.out
  obtain ⟨qa, qc, rfl⟩ := own_slice ro
  clear ro
  obtain ⟨wo, hwo⟩ : ∃ x, x = wr := ⟨_, rfl⟩
  subst hwo
  obtain ⟨e0, e1, e2, e3, _⟩ := KSb.out wo J.out
  by_cases hlt : i < a.length
  ·have q1 : decide ((i : Int) < (a.length : Int)) = true := dT
   have HLT := Hd hlt
   rcases HA.out with ⟨_, _, _, e⟩ | ⟨b3, off3, cap3, ev, hc3, hm3, hx3⟩
   ·rw [e] at hlt; simp at hlt
   obtain ⟨r1, r2⟩ := hx3 i hlt
   cases ev
   have mb := MB.out i hlt
   have mm := MM.out i hlt
   have ax := AX.out i
   have ar := AR.out i _ hlt rfl
   have al := fun t ht => AL.out i t hlt ht
   obtain ⟨lo, hi', elo⟩ : ∃ x y, at_ a i = (x, y) := ⟨_, _, rfl⟩
   rw [elo] at r1 r2 mb mm ax ar al
   simp only at r1 r2 mb mm ax ar al
   have okr : lo ≤ hi' := mb.1
   have b1 := MC.out lo (mm lo (Int.le_refl _) okr)
   have b2 := MC.out hi' (mm hi' okr (Int.le_refl _))
   have ct := CT.out
   have RR := Hd (fun w' (kq : Kp V3 w') => (show w'.cell? ⟨b3, off3 + i * 2, none⟩ = some (.int .i64 lo) ∧ w'.cell? ⟨b3, off3 + i * 2 + 1, none⟩ = some (.int .i64 hi') from ⟨cell_up kq r1, cell_up kq r2⟩))
   clear r1 r2
   obtain ⟨r1, r2⟩ := RR.out wo J.out
   have M9 := Hd mm
   have X9 := Hd ax
   have R9 := Hd ar
   have L9 := Hd al
   obtain ⟨N, hN⟩ : ∃ N, (hi' - lo + 1).toNat = N := ⟨_, rfl⟩
   rw [hN] at R9 L9
   have z1 : (0 : Int) ≤ (i : Int) := by omega
   have z3 : (i : Int) < (a.length : Int) := by omega
   clear hx3 hc3 hm3 mb mm ax ar al elo
   go_wp2
   go_loopw [5, 7] (fun q jv wr => ∃ (t : Nat) (x : Int), t ≤ N ∧ x = lo + (t : Int) ∧ jv = .int .i64 x ∧ Hid (OwnR wr V3.heap.size q (AC i t)) ∧ Hid (Kp V3 wr)) (fun _ jv _ => (hi' + 1 - intOf jv).toNat)
   case atStart => exact ⟨0, lo, Nat.zero_le _, by simp, rfl, RO, J⟩
   case round =>
    obtain ⟨t, x, ht, hx, rfl, QO, JJ⟩ := hrel
    have qo := QO.out
    obtain ⟨qb, qd, rfl⟩ := own_slice qo
    clear qo
    have KJ := Hd JJ.out
    obtain ⟨e0, e1, e2, e3, _⟩ := KSb.out wr KJ.out
    obtain ⟨r1, r2⟩ := RR.out wr JJ.out
    by_cases hxx : x ≤ hi'
    ·have q2 : decide (x ≤ hi') = true := decide_eq_true hxx
     have CI2 := CI.out x wr KJ.out (M9.out x (by omega) hxx)
     have ax := X9.out t
     have al := L9.out t (by omega)
     rw [IP.out] at CI2
     rw [← hx] at ax
     have AXH := Hd ax
     have CIH := Hd CI2
     generalize inP u m x = pb at *
     have xb : 0 ≤ x ∧ x ≤ 4000000 := by omega
     have t1 : t + 1 ≤ N := by omega
     have HX := Hd hx
     have H9 := Hd hxx
     clear CI2 ax hx hxx
     go_wp2_with fail
     refine (CF.out _ _).mono ?_
     rintro e w' ⟨rfl, rfl⟩
     go_wp2_with fail
     refine (CL.out _ _).mono ?_
     rintro e w' ⟨rfl, rfl⟩
     cases pb with
     | false =>
      have Q2 := Hd (fun w1 (kk : Kp wr w1) => show OwnR w1 V3.heap.size (.slice qb (AC i t).length qd) (AC i (t + 1)) by rw [AXH.out, if_neg (by decide), List.append_nil]; exact own_kp QO.out kk)
      clear AXH
      go_wp2_with fail
      refine CIH.out.mono ?_
      rintro e w4 ⟨rfl, kk⟩
      have K4 := Hd kk
      clear kk
      go_wp2
      go_roundw
      case rel => exact ⟨t + 1, x + 1, t1, by have := HX.out; omega, by go_num, Hd (Q2.out _ (Kp.trans K4.out kx)), Hd (JJ.out.trans (Kp.trans K4.out kx))⟩
      case measure => have := H9.out; simp [intOf]; omega
     | true =>
      go_wp2_with fail
      refine CIH.out.mono ?_
      rintro e w4 ⟨rfl, kk⟩
      have K4 := Hd kk
      have Q4 := Hd (own_kp QO.out (kk.trans (Kp.alloc w4 (.cells #[.int .i64 x, .int .i64 x] 42))))
      have KA := Hd (KJ.out.trans (kk.trans (Kp.alloc w4 (.cells #[.int .i64 x, .int .i64 x] 42))))
      clear kk CIH
      go_wp2_with (at_builtin; refine wpList_app rfl (.tmp 54) (.tmp 58) 34 rfl V3.heap.size 42 i0 (.agg #[.int .i64 0, .int .i64 0]) 2 16 Tryz.underlying34 hi hz0 hz1 hz2 rfl (by decide) _ _ _ rfl Q4.out _ _ _ rfl (one_src w4 _ _ _) (by rfl) (by intro u hu; simp at hu; rcases hu with rfl | rfl <;> rfl) (by unfold maxLen; omega) (by omega) KA.out.size ?_; intro v5 w5 own5 grow5 _; have K5 := Hd (KA.out.grown grow5 (fun j hj => (Q4.out.lt j hj).1)); have O5 := Hd own5; clear own5 grow5)
      have Q5 := Hd (show OwnR w5 V3.heap.size v5 (AC i (t + 1)) by
       rw [AXH.out, if_pos trivial]
       unfold OwnR
       rw [List.length_append, cellsR_append]
       exact O5.out)
      go_wp2
      go_roundw
      case rel => exact ⟨t + 1, x + 1, t1, by have := HX.out; omega, by go_num, Q5, K5⟩
      case measure => have := H9.out; simp [intOf]; omega
    ·have q2 : decide (x ≤ hi') = false := decide_eq_false hxx
     obtain rfl : t = N := by omega
     have Q2 := Hd (show OwnR wr V3.heap.size (.slice qb (AC i t).length qd) (AC (i + 1) 0) by rw [← R9.out]; exact QO.out)
     have q9 := HLT.out
     go_wp2
     go_roundw
     case rel => exact ⟨i + 1, by omega, by go_num, Q2, KJ⟩
     case measure => simp [intOf]; omega
  ·have q1 : decide ((i : Int) < (a.length : Int)) = false := dF
   obtain rfl : i = a.length := by omega
   have R0 := Hd (show RunsAt wo (.slice qa SX.length qc) SX by have h := OwnR.runs RO.out; rw [AE.out] at h; exact h)
   have CMK := Hd (fun w1 (kk : Kp wo w1) => rmakeO_any _ SX w1 (R0.out.kp kk) SI.out (by omega))
   have KS2 := Hd (fun w' (kq : Kp wo w') => show w'.cell? ⟨w.heap.size, 1, none⟩ = some (.int .i64 u) ∧ Kp wo w' from ⟨(KSb.out w' (J.out.trans kq)).2.1, kq⟩)
   rw [AE.out]
   have HDF := DF.out
   clear CF CL CI MB MM MC AX AR AL RO HA DF AE A0 SI IP CT KSb
   by_cases h0 : SX.length = 0
   ·have q0 : ((SX.length : Int) == 0) = true := by rw [h0]; rfl
    have LN := Hd (show [] = DX by rw [HDF, if_pos h0])
    clear h0 HDF CMK R0
    go_wp2
    go_ret
    exact ⟨_, [], rfl, LN.out, fun p hp => (by cases hp), World.ownsRow_nil _ _ _ _, KB.out.trans J.out⟩
   have q0 : ((SX.length : Int) == 0) = false := beq_eq_false_iff_ne.2 (by omega)
   rw [if_neg h0] at HDF
   have DF := Hd HDF
   have k00 : Kp wo wo := Kp.refl _
   clear h0 HDF R0
   go_upto_region 14 with fail
   refine wp_region_held_drew (S := fun w' => w'.cell? ⟨w.heap.size, 1, none⟩ = some (.int .i64 u) ∧ Kp wo w') (by kernel_rfl) ?_ (fun hHeld0 => ?_)
   ·(try dsimp only); exact KS2.out _ (ky k00)
   refine tkv 0 niE0 ?_
   (try simp only [Act.put, niE0, xA, xB, xC])
   refine tkv 1 niE1 ?_
   (try simp only [Act.put, niE1, xA, xB, xC])
   refine tkv 2 niE2 ?_
   (try simp only [Act.put, niE2, xA, xB, xC])
   refine tkE 3 niE3 rfl (by kernel_rfl) (fun K hK => ?_)
   go_simp
   (refine (CMK.out _ (ky k00)).mono ?_; rintro e w7 ⟨v7, rfl, r7, kq1⟩; have kkq : Kp wo w7 := Kp.trans (show Kp wo _ from (ky k00)) kq1; obtain ⟨a7, c7, rfl⟩ := own_slice r7; have R7 := Hd (own_mono r7 (KB.out.trans (J.out.trans (show Kp wo _ from (ky k00)))).size); clear kq1 r7)
   (try go_wp2_with fail)
   refine hK.out _ _ ?_ (fun hHeld1 => ?_)
   ·(try dsimp only); exact KS2.out _ (ky kkq)
   clear hK K hHeld0
   (try simp only [Act.put, niE3, xA, xB, xC])
   refine tkv 4 niE4 ?_
   (try simp only [Act.put, niE4, xA, xB, xC])
   refine tkE 5 niE5 rfl (by kernel_rfl) (fun K hK => ?_)
   go_simp
   skip
   (try go_wp2_with fail)
   refine hK.out _ _ ?_ (fun hHeld2 => ?_)
   ·(try dsimp only); exact KS2.out _ (ky kkq)
   clear hK K hHeld1
   (try simp only [Act.put, niE5, xA, xB, xC])
   refine tkv 6 niE6 ?_
   (try simp only [Act.put, niE6, xA, xB, xC])
   refine wpAnyH_done (by kernel_rfl) ?_ _
   go_wp2
   go_ret
   exact ⟨_, [((⟨false, u, nf SX, []⟩ : LF), ((.slice a7 (nf SX).length c7, .slice none 0 0) : VV))], rfl, DF.out.symm, fun p hp => (by rw [List.mem_singleton.1 hp]; exact ⟨own_kp R7.out (ky (Kp.refl w7)), World.ownsRow_nil _ _ _ _⟩), own_mono (own_leaf _ ⟨false, u, nf SX, []⟩ (.slice a7 (nf SX).length c7) (.slice none 0 0)) (KB.out.trans (J.out.trans (ky kkq))).size, KB.out.trans (J.out.trans (ky kkq))⟩
end Go.Proofs.YtcooaoponkkpeaaGreatDoor
