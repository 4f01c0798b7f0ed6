/-
  Contracts of the document's answer for layer 4: put.
-/
import Derived.Test.YtjjpnglilalnmaaGreatDoorApp
import Derived.Test.YtjjpnglilalnmaaGreatDoor4A
import Derived.Test.YtjjpnglilalnmaaGreatDoorRunsD
import Derived.Test.YtjjpnglilalnmaaGreatDoorRunsS
import Derived.RegionTactic
namespace Go.Proofs.YtjjpnglilalnmaaGreatDoor
open Go.RowKit
set_option linter.unusedVariables false
set_option linter.unusedSimpArgs false
def pst (st : List R × R × List R) (y : R) : List R × R × List R :=
  if y.2 < st.2.1.1 - 1 then (st.1 ++ [y], st.2.1, st.2.2) else if st.2.1.2 + 1 < y.1 then (st.1, st.2.1, st.2.2 ++ [y]) else (st.1, (min st.2.1.1 y.1, max st.2.1.2 y.2), st.2.2)
theorem pst_after : ∀ (s bf : List R) (x : R) (af : List R), sane s → okR x → (∀ y t, s = y :: t → x.2 + 1 < y.1) → s.foldl pst (bf, x, af) = (bf, x, af ++ s) := by
  intro s
  induction s with
  | nil => intro bf x af _ _ _; simp
  | cons y t ih =>
    intro bf x af hs hx hy
    have h1 := hy y t rfl
    have h2 := (sane_head hs).1
    have h3 := hx.1
    rw [List.foldl_cons]
    have e : pst (bf, x, af) y = (bf, x, af ++ [y]) := by
      unfold pst; simp only; rw [if_neg (by omega), if_pos h1]
    rw [e, ih bf x (af ++ [y]) (sane_tail hs) hx (fun z u e => by subst e; have : y.2 + 1 < z.1 := hs.2.1; omega), List.append_assoc]
    rfl
theorem pst_put : ∀ (s bf : List R) (x : R), sane s → okR x → (s.foldl pst (bf, x, [])).1 ++ (s.foldl pst (bf, x, [])).2.1 :: (s.foldl pst (bf, x, [])).2.2 = bf ++ put1 x s := by
  intro s
  induction s with
  | nil => intro bf x _ _; rfl
  | cons y t ih =>
    intro bf x hs hx
    rw [List.foldl_cons, put1]
    by_cases c1 : y.2 < x.1 - 1
    · have e : pst (bf, x, []) y = (bf ++ [y], x, []) := by unfold pst; simp only; rw [if_pos c1]
      rw [e, if_pos c1, ih (bf ++ [y]) x (sane_tail hs) hx, List.append_assoc]
      rfl
    · rw [if_neg c1]
      by_cases c2 : x.2 + 1 < y.1
      · have e : pst (bf, x, []) y = (bf, x, [y]) := by unfold pst; simp only; rw [if_neg c1, if_pos c2]; rfl
        rw [e, if_pos c2, pst_after t bf x [y] (sane_tail hs) hx (fun z u e => by subst e; have h : y.2 + 1 < z.1 := hs.2.1; have := (sane_head hs).1; omega)]
        rfl
      · have e : pst (bf, x, []) y = (bf, (min x.1 y.1, max x.2 y.2), []) := by unfold pst; simp only; rw [if_neg c1, if_neg c2]
        rw [e, if_neg c2, ih bf _ (sane_tail hs) (okR_join hx (sane_head hs))]
theorem grown_cell1 {wr w1 : World} {row : Option Nat} {o1 : Obj} {B o : Nat} (g : (wr.alloc o1).grownBy w1 row) (hB : B < wr.heap.size) (hn : ∀ j, row = some j → j ≠ B) : w1.cell? ⟨B, o, none⟩ = wr.cell? ⟨B, o, none⟩ :=
  (grown_cell g (by simp; omega) hn).trans ((Kp.alloc wr o1).cell hB)
theorem grown_frozen1 {wr w1 : World} {row : Option Nat} {o1 : Obj} {B o : Nat} (g : (wr.alloc o1).grownBy w1 row) (hB : B < wr.heap.size) (hn : ∀ j, row = some j → j ≠ B) : w1.frozen? ⟨B, o, none⟩ = wr.frozen? ⟨B, o, none⟩ :=
  (grown_frozen g (by simp; omega) hn).trans ((Kp.alloc wr o1).frozen hB)
theorem at_mem {l : List R} {k : Nat} (h : k < l.length) : at_ l k ∈ l := by
  have : at_ l k = l[k] := by unfold at_; simp [List.getD, h]
  rw [this]; exact List.getElem_mem h
theorem own_ge {w : World} {base : Nat} {e : TypeId} {size : Nat} {v : Value} {n : Nat} {xs : List Value} (h : w.ownsRow base e size v n xs) {B : Nat} (hB : B < base) : ∀ j, v.ownBlock = some j → j ≠ B := fun j hj => by
  have := (h.lt j hj).1
  omega
set_option maxHeartbeats 4000000 in
set_option maxRecDepth 100000 in
theorem rput_any (v : Value) (s : List R) (r : R) (w : World) (hv : RunsAt w v s) (hs : sane s) (hn : s.length ≤ 1000000) (b1 : -9223372036854775808 ≤ r.1) (b2 : r.2 ≤ 9223372036854775807) :
    Calls Tryz.prog 135 #[v, .agg #[.int .i64 r.1, .int .i64 r.2]] w fun e w' => ∃ v' : Value, e = .returned v' ∧ RunsAt w' v' (putR s r) ∧ Kp w w' := by
  obtain ⟨i0, hi, hz0, hz1, hz2⟩ := info_parts infoR
  obtain ⟨ad, c, rfl⟩ := hv.slice
  obtain ⟨lo, hi'⟩ := r
  simp only at b1 b2
  obtain ⟨xl, hxl⟩ : ∃ x, (if lo < -1099511627776 then -1099511627776 else lo) = x := ⟨_, rfl⟩
  obtain ⟨xh, hxh⟩ : ∃ x, (if 1099511627776 < hi' then 1099511627776 else hi') = x := ⟨_, rfl⟩
  have CL : clipR (lo, hi') = (xl, xh) := by
    unfold clipR; simp only; rw [← hxl, ← hxh]; congr 1 <;> split <;> omega
  have c1 : -1099511627776 ≤ xl := by rw [← hxl]; split <;> omega
  have c2 : xh ≤ 1099511627776 := by rw [← hxh]; split <;> omega
  have HV := Lib.hid hv
  clear hv
  by_cases hx : xl ≤ xh
  · have E : putR s (lo, hi') = (s.foldl pst ([], (xl, xh), [])).1 ++ (s.foldl pst ([], (xl, xh), [])).2.1 :: (s.foldl pst ([], (xl, xh), [])).2.2 := by
      unfold putR
      rw [CL, if_neg (by simp only; omega), pst_put s [] (xl, xh) hs ⟨hx, c1, c2⟩]
      rfl
    rw [E]
    clear E CL
    have OK := Lib.hid (sane_ok hs)
    have g0 : decide (xh < xl) = false := decide_eq_false (by omega)
    have g0' : ¬ xh < xl := by omega
    clear hs
    have hsl : (s.length : Int) ≤ 1000000 := by omega
    go_enter Tryz.func135, Tryz.ntmps135
    go_wp2
    go_loopw [6, 7, 8] (fun u6 u7 u8 wr => ∃ (k : Nat) (bf af : List R) (yl yh : Int), k ≤ s.length ∧ u8 = .int .i64 k ∧ Hid ((s.take k).foldl pst ([], (xl, xh), []) = (bf, (yl, yh), af)) ∧ yl ≤ yh ∧ -1099511627776 ≤ yl ∧ yh ≤ 1099511627776 ∧ bf.length + af.length ≤ k ∧
      Hid (wr.ownsRow (w.heap.size + 2) 70 2 u6 bf.length (cellsR bf)) ∧ Hid (wr.ownsRow (w.heap.size + 2) 70 2 u7 af.length (cellsR af)) ∧ Hid (Apart u6 u7) ∧
      wr.cell? ⟨w.heap.size + 1, 0, none⟩ = some (.int .i64 yl) ∧ wr.cell? ⟨w.heap.size + 1, 1, none⟩ = some (.int .i64 yh) ∧ wr.frozen? ⟨w.heap.size + 1, 0, none⟩ = false ∧ wr.frozen? ⟨w.heap.size + 1, 1, none⟩ = false ∧ w.heap.size + 2 ≤ wr.heap.size ∧ Hid (Kp w wr)) (fun _ _ u8 _ => s.length - (intOf u8).toNat)
    case atStart => exact ⟨0, [], [], xl, xh, Nat.zero_le _, rfl, Lib.hid rfl, hx, c1, c2, Nat.le_refl _, Lib.hid (World.ownsRow_nil _ _ _ _), Lib.hid (World.ownsRow_nil _ _ _ _), Lib.hid (Apart.nil _), by simp, by simp, by simp, by simp, by simp, Lib.hid ((Kp.alloc _ _).trans (Kp.alloc _ _))⟩
    case round =>
      clear hx c1 c2 g0 g0' hxl hxh b1 b2
      obtain ⟨k, bf, af, yl, yh, hk, rfl, ST, hy, y1, y2, hlen, O6, O7, AP, k1, k2, k3, k4, hsz, K1⟩ := hrel
      by_cases hlt : k < s.length
      · rcases HV.out with ⟨_, _, _, e⟩ | ⟨b, off, cap, ev, hc, hm, hx⟩
        · rw [e] at hlt; simp at hlt
        cases ev
        obtain ⟨d1, d2⟩ := rd_at hx K1.out k hlt
        clear hx
        obtain ⟨o1, o2, o3⟩ := OK.out _ (at_mem hlt)
        have S := Lib.hid (show (s.take (k + 1)).foldl pst ([], (xl, xh), []) = pst (bf, (yl, yh), af) (at_ s k) by rw [take_at s k hlt, List.foldl_append, ST.out]; rfl)
        obtain ⟨lo1, hi1, ee⟩ : ∃ x y, at_ s k = (x, y) := ⟨_, _, rfl⟩
        rw [ee] at d1 d2 o1 o2 o3 S
        simp only at d1 d2 o1 o2 o3
        clear ee ST
        have z0 : (0 : Int) ≤ (k : Int) := by omega
        have z1 : (k : Int) < (s.length : Int) := by omega
        have w1' : IntKind.i64.wrap (yl - 1) = yl - 1 := by rw [IntKind.wrap_i64]; omega
        have w2' : IntKind.i64.wrap (yh + 1) = yh + 1 := by rw [IntKind.wrap_i64]; omega
        have ne6 := Lib.hid (own_ge O6.out (B := w.heap.size + 1) (by omega))
        have ne7 := Lib.hid (own_ge O7.out (B := w.heap.size + 1) (by omega))
        have ge6 := Lib.hid (fun j (hj : u6.ownBlock = some j) => (show w.heap.size ≤ j by have := (O6.out.lt j hj).1; omega))
        have ge7 := Lib.hid (fun j (hj : u7.ownBlock = some j) => (show w.heap.size ≤ j by have := (O7.out.lt j hj).1; omega))
        by_cases q1 : hi1 < yl - 1
        · have S2 := Lib.hid (S.out.trans (show pst (bf, (yl, yh), af) (lo1, hi1) = (bf ++ [(lo1, hi1)], (yl, yh), af) by unfold pst; simp only; rw [if_pos q1]))
          have q1d : decide (hi1 < yl - 1) = true := decide_eq_true q1
          go_wp2_with fail
          go_quiet (fail)
          go_wp2_with (at_builtin; refine wpList_app rfl (.tmp 55) (.tmp 60) 49 rfl (w.heap.size + 2) 70 i0 (.agg #[.int .i64 0, .int .i64 0]) 2 16 Tryz.underlying49 hi hz0 hz1 hz2 rfl (by decide) _ _ _ rfl ((own_drewN O6.out _).alloc _) _ _ _ rfl (one_src _ _ _ _) (by simp [cellsR_length]) (by first | exact cells_one _ | (intro u hu; simp at hu; rcases hu with rfl | rfl <;> rfl)) (by unfold maxLen; omega) (by omega) (by first | omega | (simp; omega)) ?_; intro v1 w1 hown1 hgrow1 hat1)
          go_roundw
          case rel => exact ⟨k + 1, bf ++ [(lo1, hi1)], af, yl, yh, by omega, by go_num, S2, hy, y1, y2, by simp; omega, Lib.hid (own_snoc hown1), Lib.hid (own_apart ((own_drewN O7.out _).alloc _) hgrow1 AP.out), Lib.hid (apart_step AP.out ((own_drewN O7.out _).alloc _) hat1), (grown_cell1 hgrow1 (show w.heap.size + 1 < wr.heap.size by omega) ne6.out).trans k1, (grown_cell1 hgrow1 (show w.heap.size + 1 < wr.heap.size by omega) ne6.out).trans k2, (grown_frozen1 hgrow1 (show w.heap.size + 1 < wr.heap.size by omega) ne6.out).trans k3, (grown_frozen1 hgrow1 (show w.heap.size + 1 < wr.heap.size by omega) ne6.out).trans k4, by have := hgrow1.size; simp at this; omega, Lib.hid (Kp.grown (K1.out.trans ((Kp.drewN _ _).trans (Kp.alloc _ _))) hgrow1 ge6.out)⟩
          case measure => simp [intOf]; omega
        · have q1d : decide (hi1 < yl - 1) = false := decide_eq_false q1
          by_cases q2 : yh + 1 < lo1
          · have S2 := Lib.hid (S.out.trans (show pst (bf, (yl, yh), af) (lo1, hi1) = (bf, (yl, yh), af ++ [(lo1, hi1)]) by unfold pst; simp only; rw [if_neg q1, if_pos q2]))
            have q2d : decide (yh + 1 < lo1) = true := decide_eq_true q2
            go_wp2_with fail
            go_quiet (fail)
            go_wp2_with fail
            go_quiet (fail)
            go_wp2_with (at_builtin; refine wpList_app rfl (.tmp 72) (.tmp 77) 49 rfl (w.heap.size + 2) 70 i0 (.agg #[.int .i64 0, .int .i64 0]) 2 16 Tryz.underlying49 hi hz0 hz1 hz2 rfl (by decide) _ _ _ rfl ((own_drewN O7.out _).alloc _) _ _ _ rfl (one_src _ _ _ _) (by simp [cellsR_length]) (by first | exact cells_one _ | (intro u hu; simp at hu; rcases hu with rfl | rfl <;> rfl)) (by unfold maxLen; omega) (by omega) (by first | omega | (simp; omega)) ?_; intro v1 w1 hown1 hgrow1 hat1)
            go_roundw
            case rel => exact ⟨k + 1, bf, af ++ [(lo1, hi1)], yl, yh, by omega, by go_num, S2, hy, y1, y2, by simp; omega, Lib.hid (own_apart ((own_drewN O6.out _).alloc _) hgrow1 AP.out.symm), Lib.hid (own_snoc hown1), Lib.hid (apart_step AP.out.symm ((own_drewN O6.out _).alloc _) hat1).symm, (grown_cell1 hgrow1 (show w.heap.size + 1 < wr.heap.size by omega) ne7.out).trans k1, (grown_cell1 hgrow1 (show w.heap.size + 1 < wr.heap.size by omega) ne7.out).trans k2, (grown_frozen1 hgrow1 (show w.heap.size + 1 < wr.heap.size by omega) ne7.out).trans k3, (grown_frozen1 hgrow1 (show w.heap.size + 1 < wr.heap.size by omega) ne7.out).trans k4, by have := hgrow1.size; simp at this; omega, Lib.hid (Kp.grown (K1.out.trans ((Kp.drewN _ _).trans (Kp.alloc _ _))) hgrow1 ge7.out)⟩
            case measure => simp [intOf]; omega
          · have q2d : decide (yh + 1 < lo1) = false := decide_eq_false q2
            obtain ⟨nl, hnl⟩ : ∃ x, (if lo1 < yl then lo1 else yl) = x := ⟨_, rfl⟩
            obtain ⟨nh, hnh⟩ : ∃ x, (if yh < hi1 then hi1 else yh) = x := ⟨_, rfl⟩
            have S2 := Lib.hid (S.out.trans (show pst (bf, (yl, yh), af) (lo1, hi1) = (bf, (nl, nh), af) by unfold pst; simp only; rw [if_neg q1, if_neg q2, ← hnl, ← hnh]; congr 2; congr 1 <;> split <;> omega))
            have m1 : -1099511627776 ≤ nl ∧ nl ≤ yl := by rw [← hnl]; split <;> omega
            have m2 : nh ≤ 1099511627776 ∧ yh ≤ nh := by rw [← hnh]; split <;> omega
            go_wp2_with fail
            go_quiet (fail)
            go_wp2_with fail
            go_quiet (fail)
            go_wp2_with fail
            go_region
            all_goals go_wp2
            refine ⟨⟨k + 1, bf, af, nl, nh, by omega, by go_num, S2, by omega, m1.1, m2.1, by omega, Lib.hid (ownsRow_setCell_below (ownsRow_setCell_below (own_drewN O6.out _) (by show w.heap.size + 1 < _; omega) _) (by show w.heap.size + 1 < _; omega) _), Lib.hid (ownsRow_setCell_below (ownsRow_setCell_below (own_drewN O7.out _) (by show w.heap.size + 1 < _; omega) _) (by show w.heap.size + 1 < _; omega) _), AP, ?_, ?_, ?_, ?_, ?_, ?_⟩, by simp only [intOf]; omega⟩
            · rw [World.cell?_setCell_other _ _ _ _ (by simp)]
              exact World.cell?_setCell_same' _ _ _ (by rw [show (World.cell? (wr.drewN _) _) = _ from k1]; rfl)
            · refine World.cell?_setCell_same' _ _ _ ?_
              rw [World.cell?_setCell_other _ _ _ _ (by simp), show (World.cell? (wr.drewN _) _) = _ from k2]
              rfl
            · rw [World.frozen?_setCell, World.frozen?_setCell]; exact k3
            · rw [World.frozen?_setCell, World.frozen?_setCell]; exact k4
            · simp [World.setCell]; omega
            · exact Lib.hid (Below.setCell (Below.setCell (K1.out.trans (Kp.drewN _ _)) (by show w.heap.size ≤ w.heap.size + 1; omega) _) (by show w.heap.size ≤ w.heap.size + 1; omega) _)
      · obtain rfl : k = s.length := by omega
        rw [List.take_length] at ST
        have ge6 := Lib.hid (fun j (hj : u6.ownBlock = some j) => (show w.heap.size ≤ j by have := (O6.out.lt j hj).1; omega))
        have q : decide ((s.length : Int) < s.length) = false := by simp
        go_wp2_with (first | (at_builtin; refine wpList_app rfl (.tmp 79) (.tmp 81) 49 rfl (w.heap.size + 2) 70 i0 (.agg #[.int .i64 0, .int .i64 0]) 2 16 Tryz.underlying49 hi hz0 hz1 hz2 rfl (by decide) _ _ _ rfl (O6.out.alloc _) _ _ _ rfl (one_src _ _ _ _) (by simp [cellsR_length]) (by intro u hu; simp at hu; rcases hu with rfl | rfl <;> rfl) (by unfold maxLen; omega) (by omega) (by simp; omega) ?_; intro v1 w1 hown1 hgrow1 hat1) | (at_builtin; refine wpList_app rfl (.tmp 83) (.tmp 84) 49 rfl (w.heap.size + 2) 70 i0 (.agg #[.int .i64 0, .int .i64 0]) 2 16 Tryz.underlying49 hi hz0 hz1 hz2 rfl (by decide) _ _ _ rfl (own_snoc hown1) _ _ _ rfl (runsAt_own (own_apart (O7.out.alloc _) hgrow1 AP.out)).src (cellsR_length _) (cells_one _) (by simp; unfold maxLen; omega) (by simp; omega) (by have := hgrow1.size; simp at this; omega) ?_; intro v2 w2 hown2 hgrow2 hat2))
        go_ret
        refine ⟨_, rfl, ?_, ?_⟩
        · rw [ST.out]
          have := runsAt_own (own_len hown2)
          rw [List.append_assoc] at this
          exact this
        · exact Kp.grown (Kp.grown (K1.out.trans (Kp.alloc _ _)) hgrow1 ge6.out) hgrow2 (fun j hj => by have := (hown1.lt j hj).1; omega)
  · have E : putR s (lo, hi') = s := by
      unfold putR
      rw [CL, if_pos (by simp only; omega)]
    rw [E]
    have g0 : decide (xh < xl) = true := decide_eq_true (by omega)
    clear E CL hs c1 c2
    go_enter Tryz.func135, Tryz.ntmps135
    go_wp2
    go_ret
    exact ⟨_, rfl, HV.out.kp ((Kp.alloc _ _).trans (Kp.alloc _ _)), (Kp.alloc _ _).trans (Kp.alloc _ _)⟩
end Go.Proofs.YtjjpnglilalnmaaGreatDoor
