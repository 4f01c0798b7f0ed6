/-
  Layer 4: the walk of RunsOnce.
-/
import Derived.Test.YtgaadakhkjfbnaaL4B
import Derived.Deep.RegionHeld3
namespace Go.Proofs.Ytgaadakhkjfbnaa
open Go.RowKit
set_option linter.unusedVariables false
set_option linter.unusedSimpArgs false
/-- what one run is cut into -/
def cut1 (k : Int) (r : R) : List R := if max r.1 (min r.2 k) < r.2 then [(r.1, max r.1 (min r.2 k)), (max r.1 (min r.2 k) + 1, r.2)] else [(r.1, max r.1 (min r.2 k))]
/-- the runs from place i on, cut, the last one first -/
def cutF (l : List R) (k : Int) : Nat → List R
  | 0 => []
  | j + 1 => cutF l k j ++ cut1 k (at_ l (l.length - 1 - j))
theorem cut1_len (k : Int) (r : R) : (cut1 k r).length ≤ 2 := by unfold cut1; split <;> simp
theorem cutF_len (l : List R) (k : Int) (j : Nat) : (cutF l k j).length ≤ 2 * j := by
  induction j with
  | zero => simp [cutF]
  | succ j ih => have := cut1_len k (at_ l (l.length - 1 - j)); rw [cutF, List.length_append]; omega
theorem cut1_mem (k : Int) (r : R) (h : r.1 ≤ r.2) (n : Int) : memR (cut1 k r) n ↔ (r.1 ≤ n ∧ n ≤ r.2 ∧ -1099511627776 ≤ n ∧ n ≤ 1099511627776) := by
  have := memR_nil n
  unfold cut1
  split
  · rw [memR_cons, memR_cons]
    simp only
    constructor
    · rintro (q | q | q)
      · omega
      · omega
      · exact absurd q this
    · intro q
      by_cases c : n ≤ max r.1 (min r.2 k)
      · exact .inl ⟨q.1, c, q.2.2⟩
      · exact .inr (.inl ⟨by omega, q.2.1, q.2.2⟩)
  · rw [memR_cons]
    simp only
    constructor
    · rintro (q | q)
      · omega
      · exact absurd q this
    · intro q
      exact .inl (by omega)
theorem cutF_mem (l : List R) (k : Int) (h : ∀ i, i < l.length → (at_ l i).1 ≤ (at_ l i).2) (n : Int) : ∀ j, j ≤ l.length → (memR (cutF l k j) n ↔ ∃ i, l.length - j ≤ i ∧ i < l.length ∧ ((at_ l i).1 ≤ n ∧ n ≤ (at_ l i).2 ∧ -1099511627776 ≤ n ∧ n ≤ 1099511627776)) := by
  intro j
  induction j with
  | zero => intro _; rw [cutF]; exact ⟨fun g => absurd g (memR_nil n), fun ⟨i, h1, h2, _⟩ => by omega⟩
  | succ j ih =>
    intro hj
    rw [cutF, memR_append, ih (by omega), cut1_mem k _ (h _ (by omega))]
    constructor
    · rintro (⟨i, h1, h2, g⟩ | g)
      · exact ⟨i, by omega, h2, g⟩
      · exact ⟨l.length - 1 - j, by omega, by omega, g⟩
    · rintro ⟨i, h1, h2, g⟩
      by_cases c : l.length - j ≤ i
      · exact .inl ⟨i, c, h2, g⟩
      · obtain rfl : i = l.length - 1 - j := by omega
        exact .inr g
theorem cutF_nf (l : List R) (k : Int) (h : ∀ i, i < l.length → (at_ l i).1 ≤ (at_ l i).2) : nf (cutF l k l.length) = nf l := by
  refine nf_congr fun n => ?_
  rw [cutF_mem l k h n l.length (Nat.le_refl _)]
  constructor
  · rintro ⟨i, _, h2, g⟩; exact ⟨at_ l i, at_mem h2, g⟩
  · rintro ⟨r, hr, g⟩
    obtain ⟨i, hi, e⟩ := List.getElem_of_mem hr
    have e2 : at_ l i = r := by unfold at_; simp [List.getD, hi, e]
    exact ⟨i, by omega, hi, by rw [e2]; exact g⟩
theorem cutF_i64 (l : List R) (k : Int) (hl : I64R l) (k1 : -9223372036854775808 ≤ k) (k2 : k ≤ 9223372036854775807) : ∀ j, j ≤ l.length → I64R (cutF l k j) := by
  intro j
  induction j with
  | zero => intro _ r h; cases h
  | succ j ih =>
    intro hj r hr
    rw [cutF, List.mem_append] at hr
    rcases hr with hr | hr
    · exact ih (by omega) r hr
    · have b := I64R.at_ hl (i := l.length - 1 - j) (by omega)
      unfold cut1 at hr
      split at hr
      · simp only [List.mem_cons, List.not_mem_nil, or_false] at hr
        rcases hr with rfl | rfl <;> simp only <;> omega
      · simp only [List.mem_cons, List.not_mem_nil, or_false] at hr
        subst hr
        simp only
        omega
set_option maxHeartbeats 4000000 in
set_option maxRecDepth 100000 in
theorem runsOnce_walk (v : Value) (l : List R) (k : Int) (w : World) (hv : RunsAt w v l) (hl : I64R l) (b1 : -9223372036854775808 ≤ k) (b2 : k ≤ 9223372036854775807) :
    Calls Try.prog 7 #[v, .int .i64 k] w fun e w' => e = .returned (.bool true) ∧ Kp w w' := by
  obtain ⟨i0, hi, hz0, hz1, hz2⟩ := info_parts infoR
  obtain ⟨ad, c, rfl⟩ := hv.slice
  by_cases h40 : l.length ≤ 20
  · have g40 : decide ((20 : Int) < l.length) = false := decide_eq_false (by omega)
    have g40' : ¬ (20 : Int) < l.length := by omega
    have HV := Lib.hid hv
    have HL := Lib.hid hl
    have C1 := Lib.hid (fun w1 (k : Kp w w1) => make_any (.slice ad l.length c) l w1 (hv.kp k) hl (by omega))
    have C2 := Lib.hid (fun w1 (k : Kp w w1) => count_of (.slice ad l.length c) (nf l) w1 (asS_any (.slice ad l.length c) l w1 (hv.kp k) hl (by omega)) (nf_sane l))
    have nl := nf_len l
    have CI := Lib.hid (cutF_i64 l k hl b1 b2)
    have wl : IntKind.i64.wrap ((l.length : Int) - 1) = (l.length : Int) - 1 := by rw [IntKind.wrap_i64]; omega
    clear hv hl
    go_enter Try.func7, Try.ntmps7
    go_wp2_with fail
    refine (awake04 _).mono ?_
    rintro e w1 ⟨rfl, k1⟩
    have K1 := Lib.hid k1
    clear k1
    go_wp2
    go_loopw [6, 7, 8] (fun u6 u7 u8 wr => ∃ (j : Nat), j ≤ l.length ∧ u7 = .int .i64 ((l.length : Int) - 1 - j) ∧ Hid (wr.ownsRow w.heap.size 35 2 u6 (cutF l k j).length (cellsR (cutF l k j))) ∧ Hid (Kp w wr)) (fun _ u7 _ _ => (intOf u7 + 1).toNat)
    case atStart => exact ⟨0, by omega, by first | go_num | simp, Lib.hid (World.ownsRow_nil _ _ _ _), K1⟩
    case round =>
      obtain ⟨j, hj, rfl, O, K2⟩ := hrel
      by_cases hlt : j < l.length
      · rcases HV.out with ⟨_, _, _, e⟩ | ⟨b, off, cap, ev, hc, hm, hx⟩
        · rw [e] at hlt; simp at hlt
        cases ev
        obtain ⟨p, hp⟩ : ∃ p, p = l.length - 1 - j := ⟨_, rfl⟩
        have cp : (l.length : Int) - 1 - (j : Int) = (p : Int) := by omega
        have hpl : p < l.length := by omega
        rw [cp]
        obtain ⟨d1, d2⟩ := rd_at hx K2.out p hpl
        have RD := Lib.hid (fun w' (kk : Kp w w') => rd_at hx kk p hpl)
        clear hx
        have bd := I64R.at_ HL.out hpl
        have len := cutF_len l k j
        have E := Lib.hid (show cutF l k (j + 1) = cutF l k j ++ cut1 k (at_ l p) by rw [cutF, hp])
        obtain ⟨lo, hi', ee⟩ : ∃ x y, at_ l p = (x, y) := ⟨_, _, rfl⟩
        rw [ee] at d1 d2 bd E RD
        simp only at d1 d2 bd RD
        obtain ⟨bb1, bb2, bb3, bb4⟩ := bd
        clear ee
        have hj2 : j + p + 1 = l.length := by omega
        have z0 : (0 : Int) ≤ (p : Int) := by omega
        have z1 : (p : Int) < (l.length : Int) := by omega
        have z2 : decide ((0 : Int) ≤ (p : Int)) = true := decide_eq_true z0
        have wp1 : IntKind.i64.wrap ((p : Int) - 1) = (p : Int) - 1 := by rw [IntKind.wrap_i64]; omega
        have cpn : (p : Int) - 1 = (l.length : Int) - 1 - ((j + 1 : Nat) : Int) := by omega
        have CPN := Lib.hid cpn
        obtain ⟨x, hxx⟩ : ∃ x, max lo (min hi' k) = x := ⟨_, rfl⟩
        have HXX := Lib.hid hxx
        have x0 : lo ≤ x ∧ (x ≤ hi' ∨ x = lo) := by omega
        have x1 : -9223372036854775808 ≤ x ∧ x ≤ 9223372036854775807 := by omega
        have hsz := K2.out.size
        clear hp cp cpn hlt
        by_cases hb : x < hi'
        · have q1 : decide (x < hi') = true := decide_eq_true hb
          have wx : IntKind.i64.wrap (x + 1) = x + 1 := by rw [IntKind.wrap_i64]; omega
          have E2 := Lib.hid (show cutF l k (j + 1) = (cutF l k j ++ [(lo, x)]) ++ [(x + 1, hi')] by rw [E.out]; unfold cut1; simp only; rw [HXX.out, if_pos hb, List.append_assoc]; rfl)
          go_wp2_with fail
          go_quiet (fail)
          clear d1 d2
          have d1 := (RD.out _ (K2.out.trans (Kp.drewN wr nq))).1
          go_wp2_with (first | (at_builtin; refine wpList_app rfl (.tmp 35) (.tmp 43) 22 rfl w.heap.size 35 i0 (.agg #[.int .i64 0, .int .i64 0]) 2 16 Try.underlying22 hi hz0 hz1 hz2 rfl (by decide) _ _ _ rfl ((own_drewN O.out _).alloc _) _ _ _ rfl (one_src _ _ _ _) rfl (by intro u hu; simp at hu; rcases hu with rfl | rfl <;> rfl) (by unfold maxLen; omega) (by omega) ((by simp; omega)) ?_; intro v1 w1 hown1 hgrow1 hat1; have KA := Lib.hid (Kp.grown (K2.out.trans ((Kp.drewN _ _).trans (Kp.alloc _ _))) hgrow1 (fun j hj => (O.out.lt j hj).1)); have d3 := (RD.out _ KA.out).2; have len1 := (show (cutF l k j ++ [(lo, x)]).length ≤ 2 * j + 1 by simp; omega); have sz1 := KA.out.size) | (at_builtin; refine wpList_app rfl (.tmp 52) (.tmp 61) 22 rfl w.heap.size 35 i0 (.agg #[.int .i64 0, .int .i64 0]) 2 16 Try.underlying22 hi hz0 hz1 hz2 rfl (by decide) _ _ _ rfl ((own_snoc hown1).alloc _) _ _ _ rfl (one_src _ _ _ _) rfl (by intro u hu; simp at hu; rcases hu with rfl | rfl <;> rfl) (by unfold maxLen; omega) (by omega) ((by simp; omega)) ?_; intro v2 w2 hown2 hgrow2 hat2))
          refine ⟨⟨j + 1, by omega, by rw [CPN.out], Lib.hid (by rw [E2.out]; exact own_snoc hown2), Lib.hid (Kp.grown (KA.out.trans (Kp.alloc _ _)) hgrow2 (fun j hj => (hown1.lt j hj).1))⟩, by simp only [intOf]; omega⟩
        · have q1 : decide (x < hi') = false := decide_eq_false hb
          have E2 := Lib.hid (show cutF l k (j + 1) = cutF l k j ++ [(lo, x)] by rw [E.out]; unfold cut1; simp only; rw [HXX.out, if_neg hb])
          go_wp2_with fail
          go_quiet (fail)
          clear d1 d2
          have d1 := (RD.out _ (K2.out.trans (Kp.drewN wr nq))).1
          go_wp2_with (at_builtin; refine wpList_app rfl (.tmp 35) (.tmp 43) 22 rfl w.heap.size 35 i0 (.agg #[.int .i64 0, .int .i64 0]) 2 16 Try.underlying22 hi hz0 hz1 hz2 rfl (by decide) _ _ _ rfl ((own_drewN O.out _).alloc _) _ _ _ rfl (one_src _ _ _ _) rfl (by intro u hu; simp at hu; rcases hu with rfl | rfl <;> rfl) (by unfold maxLen; omega) (by omega) ((by simp; omega)) ?_; intro v1 w1 hown1 hgrow1 hat1; have KA := Lib.hid (Kp.grown (K2.out.trans ((Kp.drewN _ _).trans (Kp.alloc _ _))) hgrow1 (fun j hj => (O.out.lt j hj).1)); have d3 := (RD.out _ KA.out).2)
          refine ⟨⟨j + 1, by omega, by rw [CPN.out], Lib.hid (by rw [E2.out]; exact own_snoc hown1), KA⟩, by simp only [intOf]; omega⟩
      · obtain rfl : j = l.length := by omega
        have z2 : decide ((0 : Int) ≤ (l.length : Int) - 1 - (l.length : Int)) = false := decide_eq_false (by omega)
        have z3 : ¬ (0 : Int) ≤ (l.length : Int) - 1 - (l.length : Int) := by omega
        have len := cutF_len l k l.length
        obtain ⟨ad6, c6, rfl⟩ := (runsAt_own O.out).slice
        have R6 := Lib.hid (runsAt_own O.out)
        clear O
        have CI2 := Lib.hid (CI.out l.length (Nat.le_refl _))
        have CF := Lib.hid (cutF_nf l k)
        generalize cutF l k l.length = cl at *
        have D1 := Lib.hid (fun w' (kk : Kp wr w') => make_any _ cl w' (R6.out.kp kk) CI2.out (by omega))
        have D2 := Lib.hid (fun w' (kk : Kp wr w') => count_of _ (nf cl) w' (asS_any _ cl w' (R6.out.kp kk) CI2.out (by omega)) (nf_sane cl))
        go_wp2
        go_loopw [9] (fun i w3 => ∃ q : Nat, q ≤ l.length ∧ i = .int .i64 q ∧ Hid (∀ i, i < q → (at_ l i).1 ≤ (at_ l i).2) ∧ Hid (Kp wr w3)) (fun i _ => l.length - (intOf i).toNat)
        case atStart => exact ⟨0, by omega, rfl, Lib.hid (fun i h => by omega), Lib.hid (Kp.refl _)⟩
        case round =>
          rename_i w3
          obtain ⟨q, hq, rfl, OKQ, K3⟩ := hrel
          by_cases hlt : q < l.length
          · rcases HV.out with ⟨_, _, _, e⟩ | ⟨b, off, cap, ev, hc, hm, hx⟩
            · rw [e] at hlt; simp at hlt
            cases ev
            obtain ⟨d1, d2⟩ := rd_at hx (K2.out.trans K3.out) q hlt
            clear hx
            have NX := Lib.hid (fun (h : (at_ l q).1 ≤ (at_ l q).2) => (show ∀ i, i < q + 1 → (at_ l i).1 ≤ (at_ l i).2 from fun i hi => by
              by_cases c : i < q
              · exact OKQ.out i c
              · obtain rfl : i = q := by omega
                exact h))
            obtain ⟨lo, hi', ee⟩ : ∃ x y, at_ l q = (x, y) := ⟨_, _, rfl⟩
            rw [ee] at d1 d2 NX
            simp only at d1 d2 NX
            clear ee
            have y0 : (0 : Int) ≤ (q : Int) := by omega
            have y1 : (q : Int) < (l.length : Int) := by omega
            by_cases hb : lo ≤ hi'
            · have q1 : decide (hi' < lo) = false := decide_eq_false (by omega)
              have N2 := Lib.hid (NX.out hb)
              go_wp2_with fail
              go_quiet (fail)
              go_wp2
              go_roundw
              case rel => exact ⟨q + 1, by omega, by go_num, N2, Lib.hid (K3.out.trans (Kp.drewN _ _))⟩
              case measure => simp [intOf]; omega
            · have q1 : decide (hi' < lo) = true := decide_eq_true (by omega)
              go_wp2_with fail
              go_quiet (fail)
              go_wp2
              go_ret
              exact ⟨rfl, K2.out.trans (K3.out.trans (Kp.drewN _ _))⟩
          · have q0 : decide ((q : Int) < l.length) = false := by simp; omega
            have EN := Lib.hid (CF.out (fun i hi => OKQ.out i (by omega)))
            rw [EN.out] at D1
            rw [EN.out] at D2
            have D3 := Lib.hid (fun (x y : Value) w1 (hx : RunsAt w1 x (nf l)) (hy : RunsAt w1 y (nf l)) => rsame_any x y (nf l) (nf l) w1 hx hy (by omega) (by omega))
            rw [decide_eq_true rfl] at D3
            clear EN CF CI2
            generalize sumR (nf l) = sm at *
            go_wp2_with fail
            refine (D1.out _ K3.out).mono ?_
            rintro e w4 ⟨v4, rfl, own4, kk⟩
            have K4 := Lib.hid (K3.out.trans kk)
            have R4 := Lib.hid (runsAt_own own4)
            clear kk own4
            go_wp2_with fail
            refine (C1.out _ (K2.out.trans K4.out)).mono ?_
            rintro e w5 ⟨v5, rfl, own5, kk⟩
            have D4 := Lib.hid (D3.out _ _ _ (R4.out.kp kk) (runsAt_own own5))
            have K5 := Lib.hid (K4.out.trans kk)
            clear kk own5 D3
            go_wp2_with fail; refine (D4.out).mono ?_; rintro e w6 ⟨rfl, kk⟩; have K6 := Lib.hid (K5.out.trans kk); clear kk
            go_wp2_with fail; refine (D2.out _ K6.out).mono ?_; rintro e w7 ⟨rfl, kk⟩; have K7 := Lib.hid (K6.out.trans kk); clear kk
            go_wp2_with fail
            refine (C2.out _ (K2.out.trans K7.out)).mono ?_
            rintro e w8 ⟨rfl, kk⟩
            have K8 := Lib.hid (K7.out.trans kk)
            clear kk
            go_wp2
            go_ret
            exact ⟨rfl, K2.out.trans K8.out⟩
  · have g40 : decide ((20 : Int) < l.length) = true := decide_eq_true (by omega)
    have g40' : (20 : Int) < l.length := by omega
    clear hv
    go_enter Try.func7, Try.ntmps7
    go_wp2_with fail
    refine (awake04 _).mono ?_
    rintro e w1 ⟨rfl, k1⟩
    have K1 := Lib.hid k1
    clear k1
    go_wp2
    go_ret
    exact ⟨rfl, K1.out⟩
end Go.Proofs.Ytgaadakhkjfbnaa
