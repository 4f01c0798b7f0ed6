/-
  Layer 4: the walk of RunsOf.
-/
import Derived.Test.YtgaadakhkjfbnaaCnt
namespace Go.Proofs.Ytgaadakhkjfbnaa
open Go.RowKit
set_option linter.unusedVariables false
set_option linter.unusedSimpArgs false
theorem infoI : (Try.prog.info? 3).map (fun i => (i.zero, i.size, i.bytes)) = some (some (.int .i64 0), 1, 8) := by kernel_rfl
def cellsI (l : List Int) : List Value := l.map (Value.int .i64)
theorem ints_own {w : World} {base : Nat} {e : TypeId} {v : Value} {l : List Int} (h : w.ownsRow base e 1 v l.length (cellsI l)) : IntsAt w v l := by
  rcases h.2 with ⟨e1, h0⟩ | ⟨g, cp, cur, rfl, h2, h3, h4, h5, h6, h7⟩
  · exact .inl ⟨_, _, e1, List.length_eq_zero_iff.1 h0⟩
  · refine .inr ⟨g, 0, cp, rfl, h4, h5, fun i hi => ?_⟩
    rw [Nat.zero_add, h.cellAt _ (by omega)]
    unfold cellsI
    simp [List.getD, hi]
theorem int_src (w : World) (x : Int) (t : TypeId) : SrcAt (w.alloc (.cells #[.int .i64 x] t)) (.slice (some ⟨w.heap.size, 0, none⟩) 1 1) 1 [.int .i64 x] := by
  refine .inr ⟨_, _, rfl, fun j u hu => ?_⟩
  rcases j with _ | j
  · simp at hu; subst hu; simp [Addr.add]
  · simp at hu
theorem iown_snoc {w : World} {base : Nat} {e : TypeId} {v : Value} {l : List Int} {x : Int} (h : w.ownsRow base e 1 v (l.length + 1) (cellsI l ++ [.int .i64 x])) : w.ownsRow base e 1 v (l ++ [x]).length (cellsI (l ++ [x])) := by
  have : cellsI (l ++ [x]) = cellsI l ++ [.int .i64 x] := by unfold cellsI; simp
  rw [this, List.length_append]; exact h
/-- the last ones, the last one first -/
def backF (l : List Int) : Nat → List Int
  | 0 => []
  | j + 1 => backF l j ++ [l.getD (l.length - 1 - j) 0]
theorem backF_len (l : List Int) : ∀ j, (backF l j).length = j := by
  intro j
  induction j with
  | zero => rfl
  | succ j ih => rw [backF, List.length_append, ih]; rfl
theorem backF_mem (l : List Int) (n : Int) : ∀ j, j ≤ l.length → (n ∈ backF l j ↔ ∃ i, l.length - j ≤ i ∧ i < l.length ∧ l.getD i 0 = n) := by
  intro j
  induction j with
  | zero => intro _; rw [backF]; exact ⟨fun g => absurd g (List.not_mem_nil), fun ⟨i, h1, h2, _⟩ => by omega⟩
  | succ j ih =>
    intro hj
    rw [backF, List.mem_append, ih (by omega), List.mem_singleton]
    constructor
    · rintro (⟨i, h1, h2, g⟩ | g)
      · exact ⟨i, by omega, h2, g⟩
      · exact ⟨l.length - 1 - j, by omega, by omega, g.symm⟩
    · rintro ⟨i, h1, h2, g⟩
      by_cases c : l.length - j ≤ i
      · exact .inl ⟨i, c, h2, g⟩
      · obtain rfl : i = l.length - 1 - j := by omega
        exact .inr g.symm
theorem mem_getD {l : List Int} {n : Int} : n ∈ l ↔ ∃ i, i < l.length ∧ l.getD i 0 = n := by
  constructor
  · intro h
    obtain ⟨i, hi, e⟩ := List.getElem_of_mem h
    exact ⟨i, hi, by simp [List.getD, hi, e]⟩
  · rintro ⟨i, hi, rfl⟩; exact getD_mem hi
theorem backF_nf (l : List Int) : nf (sing (backF l l.length)) = nf (sing l) := by
  refine nf_congr fun n => ?_
  rw [sing_mem, sing_mem, backF_mem l n l.length (Nat.le_refl _), mem_getD]
  constructor
  · rintro ⟨⟨i, _, h2, g⟩, h⟩; exact ⟨⟨i, h2, g⟩, h⟩
  · rintro ⟨⟨i, h2, g⟩, h⟩; exact ⟨⟨i, by omega, h2, g⟩, h⟩
theorem backF_i64 (l : List Int) (hl : I64 l) : ∀ j, j ≤ l.length → I64 (backF l j) := by
  intro j hj n hn
  obtain ⟨i, _, h2, g⟩ := (backF_mem l n j hj).1 hn
  rw [← g]; exact hl _ (getD_mem h2)
theorem not_mem_take {l : List Int} {k : Nat} {x : Int} (hk : k ≤ l.length) : x ∉ l.take k ↔ ∀ i, i < k → l.getD i 0 ≠ x := by
  constructor
  · intro h i hi e
    refine h (mem_getD.2 ⟨i, by rw [List.length_take]; omega, ?_⟩)
    rw [← e]
    have h1 : i < l.length := by omega
    simp [List.getD, hi, h1]
  · intro h hm
    obtain ⟨i, hi, e⟩ := mem_getD.1 hm
    rw [List.length_take] at hi
    refine h i (by omega) ?_
    rw [← e]
    have h1 : i < l.length := by omega
    have h2 : i < k := by omega
    simp [List.getD, h2, h1]
/-- a bool that tells whether something holds -/
def Tells (q : Bool) (P : Prop) : Prop := q = true ↔ P
theorem Tells.mk {q : Bool} {P : Prop} (h : q = true ↔ P) : Tells q P := h
theorem Tells.out {q : Bool} {P : Prop} (h : Tells q P) : q = true ↔ P := h
/-- is one of the last ones within bounds, and n -/
def lastIn (l : List Int) (n : Int) (j : Nat) : Prop := ∃ i, l.length - j ≤ i ∧ i < l.length ∧ l.getD i 0 = n ∧ -1099511627776 ≤ n ∧ n ≤ 1099511627776
theorem lastIn_next (l : List Int) (n : Int) (j : Nat) (hj : j < l.length) : lastIn l n (j + 1) ↔ lastIn l n j ∨ (l.getD (l.length - 1 - j) 0 = n ∧ -1099511627776 ≤ n ∧ n ≤ 1099511627776) := by
  constructor
  · rintro ⟨i, h1, h2, g⟩
    by_cases c : l.length - j ≤ i
    · exact .inl ⟨i, c, h2, g⟩
    · obtain rfl : i = l.length - 1 - j := by omega
      exact .inr g
  · rintro (⟨i, h1, h2, g⟩ | g)
    · exact ⟨i, by omega, h2, g⟩
    · exact ⟨l.length - 1 - j, by omega, by omega, g⟩
theorem lastIn_all (l : List Int) (n : Int) : lastIn l n l.length ↔ hasB (nf (sing l)) n = true := by
  rw [hasB_nf, sing_mem, mem_getD]
  constructor
  · rintro ⟨i, _, h2, g, h⟩; exact ⟨⟨i, h2, g⟩, h⟩
  · rintro ⟨⟨i, h2, g⟩, h⟩; exact ⟨i, by omega, h2, g, h⟩
set_option maxHeartbeats 8000000 in
set_option maxRecDepth 100000 in
theorem runsOf_walk (v : Value) (l : List Int) (n : Int) (w : World) (hv : IntsAt w v l) (hl : I64 l) (b1 : -9223372036854775808 ≤ n) (b2 : n ≤ 9223372036854775807) :
    Calls Try.prog 5 #[v, .int .i64 n] w fun e w' => e = .returned (.bool true) ∧ Kp w w' := by
  obtain ⟨i0, hi, hz0, hz1, hz2⟩ := info_parts infoI
  obtain ⟨ad, c, rfl⟩ := hv.slice
  by_cases h40 : l.length ≤ 40
  · have g40 : decide ((40 : Int) < l.length) = false := decide_eq_false (by omega)
    have g40' : ¬ (40 : Int) < l.length := by omega
    have HV := Lib.hid hv
    have HL := Lib.hid hl
    have C1 := Lib.hid (fun w1 (k : Kp w w1) => of_any (.slice ad l.length c) l w1 (hv.kp k) hl (by omega))
    have wl : IntKind.i64.wrap ((l.length : Int) - 1) = (l.length : Int) - 1 := by rw [IntKind.wrap_i64]; omega
    have BI := Lib.hid (backF_i64 l hl)
    have nl : (nf (sing l)).length ≤ l.length := Nat.le_trans (nf_len _) (by rw [sing_len]; omega)
    clear hv hl
    go_enter Try.func5, Try.ntmps5
    go_wp2_with fail
    refine (awake04 _).mono ?_
    rintro e w1 ⟨rfl, k1⟩
    have K1 := Lib.hid k1
    clear k1
    go_wp2_with fail
    refine (C1.out _ K1.out).mono ?_
    rintro e w2 ⟨v2, rfl, own2, k2⟩
    have K2 := Lib.hid (K1.out.trans k2)
    have R2 := Lib.hid (runsAt_own own2)
    obtain ⟨ad2, c2, rfl⟩ := R2.out.slice
    clear own2 k2
    have S2 := nf_sane (sing l)
    have I2 := ok_i64 (sane_ok S2)
    have CH := Lib.hid (fun x w' (k : Kp w2 w') (h1 : -9223372036854775808 ≤ x) (h2 : x ≤ 9223372036854775807) => has_of ad2 (nf (sing l)).length c2 (nf (sing l)) x w' (asS_sane _ _ w' (R2.out.kp k) I2 S2) S2 (by omega) h1 h2)
    have CS := Lib.hid (fun w' (k : Kp w2 w') => sane_any _ (nf (sing l)) w' (R2.out.kp k) I2)
    rw [saneB_yes S2] at CS
    have CC := Lib.hid (fun w' (k : Kp w2 w') => count_of (.slice ad2 (nf (sing l)).length c2) (nf (sing l)) w' (asS_sane _ _ w' (R2.out.kp k) I2 S2) S2)
    have CE := Lib.hid (fun (x : Value) w1 (hx : RunsAt w1 x (nf (sing l))) (hy : Kp w2 w1) => rsame_any x _ (nf (sing l)) (nf (sing l)) w1 hx (R2.out.kp hy) (by omega) (by omega))
    rw [decide_eq_true rfl] at CE
    have SB := sumR_bd (nf (sing l)) (-1099511627776) S2 (fun r t e => by rw [e] at S2; exact (sane_head S2).2.1) (by omega)
    have SM := Lib.hid (show ∀ k, k ≤ l.length → 0 ≤ sumR (nf (sing (l.take k))) from fun k _ => (sumR_bd (nf (sing (l.take k))) (-1099511627776) (nf_sane _) (fun r t e => by have := nf_sane (sing (l.take k)); rw [e] at this; exact (sane_head this).2.1) (by omega)).1)
    clear S2 I2
    have NLL := Lib.hid nl
    clear nl
    go_wp2
    go_loopw [7, 8, 9, 10, 11, 12] (fun u7 u8 u9 u10 u11 u12 wr => ∃ (j : Nat) (q : Bool) (s : Int), j ≤ l.length ∧ u10 = .int .i64 ((l.length : Int) - 1 - j) ∧ u7 = .bool q ∧ Hid (Tells q (lastIn l n j)) ∧ u8 = .int .i64 s ∧ Hid (s = sumR (nf (sing l)) - sumR (nf (sing (l.take (l.length - j))))) ∧ 0 ≤ s ∧ s ≤ j ∧
      Hid (wr.ownsRow w2.heap.size 3 1 u9 (backF l j).length (cellsI (backF l j))) ∧ Hid (Kp w2 wr)) (fun _ _ _ u10 _ _ _ => (intOf u10 + 1).toNat)
    case atStart => exact ⟨0, false, 0, by omega, by first | go_num | simp, rfl, Lib.hid (Tells.mk ⟨fun h => absurd h Bool.false_ne_true, fun ⟨i, h1, h2, _⟩ => by omega⟩), rfl, Lib.hid (by simp), by omega, by omega, Lib.hid (World.ownsRow_nil _ _ _ _), Lib.hid (Kp.refl _)⟩
    case round =>
      obtain ⟨j, q, s, hj, rfl, rfl, HQ, rfl, HSS, hs0, hs1, O, K3⟩ := hrel
      by_cases hlt : j < l.length
      · rcases HV.out with ⟨_, _, _, e⟩ | ⟨b, off, cap, ev, hc, hm, hx⟩
        · rw [e] at hlt; simp at hlt
        cases ev
        obtain ⟨p, hp⟩ : ∃ p, p = l.length - 1 - j := ⟨_, rfl⟩
        have cp : (l.length : Int) - 1 - (j : Int) = (p : Int) := by omega
        have hpl : p < l.length := by omega
        rw [cp]
        have RD := Lib.hid (fun i (hi : i < l.length) w' (kk : Kp w w') => rd_int hx kk i hi)
        clear hx
        have d1 := RD.out p hpl _ (K2.out.trans K3.out)
        have bd := HL.out _ (getD_mem hpl)
        have LN := Lib.hid (lastIn_next l n j hlt)
        rw [← hp] at LN
        have ST := Lib.hid (sum_take hpl)
        have EB := Lib.hid (show backF l (j + 1) = backF l j ++ [l.getD p 0] by rw [backF, hp])
        have blen := backF_len l j
        have RDp := Lib.hid (RD.out p hpl)
        have HM := Lib.hid (show -1099511627776 ≤ l.getD p 0 ∧ l.getD p 0 ≤ 1099511627776 → hasB (nf (sing l)) (l.getD p 0) = true from fun h => by rw [hasB_nf, sing_mem]; exact ⟨getD_mem hpl, h⟩)
        have NT := Lib.hid (not_mem_take (l := l) (k := p) (x := l.getD p 0) (by omega))
        have E1 := Lib.hid (show l.length - (j + 1) = p by omega)
        have E2 := Lib.hid (show l.length - j = p + 1 by omega)
        obtain ⟨x, hx⟩ : ∃ x, l.getD p 0 = x := ⟨_, rfl⟩
        rw [hx] at d1 bd LN ST EB RDp HM NT
        have HXX := Lib.hid hx
        obtain ⟨bb1, bb2⟩ := bd
        have hj2 : j + p + 1 = l.length := by omega
        have z0 : (0 : Int) ≤ (p : Int) := by omega
        have z1 : (p : Int) < (l.length : Int) := by omega
        have z2 : decide ((0 : Int) ≤ (p : Int)) = true := decide_eq_true z0
        have wp1 : IntKind.i64.wrap ((p : Int) - 1) = (p : Int) - 1 := by rw [IntKind.wrap_i64]; omega
        have CPN := Lib.hid (show (p : Int) - 1 = (l.length : Int) - 1 - ((j + 1 : Nat) : Int) by omega)
        have hsz := K3.out.size
        clear hp cp hlt hx
        have KW := Lib.hid (K2.out.trans K3.out)
        -- the number, laid behind the others
        go_upto_region 12 with (at_builtin; refine wpList_app rfl (.tmp 27) (.tmp 32) 23 rfl w2.heap.size 3 i0 (.int .i64 0) 1 8 Try.underlying23 hi hz0 hz1 hz2 rfl (by decide) _ _ _ rfl (O.out.alloc _) _ _ _ rfl (int_src _ _ _) rfl (by intro u hu; simp at hu; subst hu; rfl) (by unfold maxLen; omega) (by omega) (by simp; omega) ?_; intro v4 w4 hown4 hgrow4 hat4)
        have K4 := Lib.hid (Kp.grown (K3.out.trans (Kp.alloc _ _)) hgrow4 (fun j hj => (O.out.lt j hj).1))
        have O4 := Lib.hid (show w4.ownsRow w2.heap.size 3 1 v4 (backF l (j + 1)).length (cellsI (backF l (j + 1))) by rw [EB.out]; exact iown_snoc hown4)
        clear hown4 hgrow4 hat4 O EB d1
        have d1 := RDp.out _ (K2.out.trans K4.out)
        by_cases ib : -1099511627776 ≤ x ∧ x ≤ 1099511627776
        · obtain ⟨ib1, ib2⟩ := ib
          have q1 : decide (x < -1099511627776) = false := decide_eq_false (by omega)
          have q2 : decide (1099511627776 < x) = false := decide_eq_false (by omega)
          have HX := Lib.hid (HM.out ⟨ib1, ib2⟩)
          have CX := Lib.hid (fun w' (k : Kp w2 w') => CH.out x w' k bb1 bb2)
          rw [HX.out] at CX
          have NB := Lib.hid (show (if (-1099511627776 ≤ x ∧ x ≤ 1099511627776) ∧ x ∉ l.take p then (1 : Int) else 0) = if (∀ i, i < p → l.getD i 0 ≠ x) then 1 else 0 by
            by_cases c : ∀ i, i < p → l.getD i 0 ≠ x
            · rw [if_pos ⟨⟨ib1, ib2⟩, NT.out.2 c⟩, if_pos c]
            · rw [if_neg (fun g => c (NT.out.1 g.2)), if_neg c])
          go_upto_region 13 with fail
          go_cut [7] from 46 to 54 (fun v7 w' => ∃ q' : Bool, v7 = .bool q' ∧ Hid (Tells q' (lastIn l n (j + 1))) ∧ w' = w4)
          case first =>
            cases q with
            | true =>
              have F := Lib.hid (show Tells true (lastIn l n (j + 1)) from Tells.mk ⟨fun _ => LN.out.2 (.inl (HQ.out.out.1 rfl)), fun _ => rfl⟩)
              go_wp2
              go_meet
              case rel => exact ⟨true, rfl, F, rfl⟩
            | false =>
              by_cases xn : x = n
              · have F := Lib.hid (show Tells true (lastIn l n (j + 1)) from Tells.mk ⟨fun _ => LN.out.2 (.inr ⟨xn, by omega, by omega⟩), fun _ => rfl⟩)
                have q3 : (x == n) = true := by simpa using xn
                have q4 : decide (x = n) = true := decide_eq_true xn
                have XN := Lib.hid xn
                clear xn
                go_wp2
                go_meet
                case rel => exact ⟨true, rfl, F, rfl⟩
              · have F := Lib.hid (show Tells false (lastIn l n (j + 1)) from Tells.mk ⟨fun h => absurd h Bool.false_ne_true, fun h => (LN.out.1 h).elim (fun g => absurd (HQ.out.out.2 g) Bool.false_ne_true) (fun g => absurd g.1 xn)⟩)
                have q3 : (x == n) = false := by simpa using xn
                have q4 : decide (x = n) = false := decide_eq_false xn
                go_wp2
                go_meet
                case rel => exact ⟨false, rfl, F, rfl⟩
          case rest =>
            obtain ⟨q', rfl, HQ2, rfl⟩ := hcut
            clear d1
            go_wp2
            go_loopw [11, 12] (fun u11 u12 wr2 => ∃ (t : Nat) (f : Bool), t ≤ p ∧ u12 = .int .i64 t ∧ u11 = .bool f ∧ Hid (Tells f (∀ i, i < t → l.getD i 0 ≠ x)) ∧ Hid (Kp wc wr2)) (fun _ u12 _ => p - (intOf u12).toNat)
            case atStart => exact ⟨0, true, by omega, rfl, rfl, Lib.hid (Tells.mk ⟨fun _ i h => by omega, fun _ => rfl⟩), Lib.hid (Kp.refl _)⟩
            case round =>
              rename_i wr2
              obtain ⟨t, f, ht, rfl, rfl, HF, K5⟩ := hrel
              by_cases htp : t < p
              · have e1 := RD.out t (by omega) _ (K2.out.trans (K4.out.trans K5.out))
                have e2 := RDp.out _ (K2.out.trans (K4.out.trans K5.out))
                have FN := Lib.hid (show (∀ i, i < t + 1 → l.getD i 0 ≠ x) ↔ (∀ i, i < t → l.getD i 0 ≠ x) ∧ l.getD t 0 ≠ x from ⟨fun h => ⟨fun i hi => h i (by omega), h t (by omega)⟩, fun h i hi => by
                  by_cases c : i < t
                  · exact h.1 i c
                  · obtain rfl : i = t := by omega
                    exact h.2⟩)
                obtain ⟨y, hy⟩ : ∃ y, l.getD t 0 = y := ⟨_, rfl⟩
                rw [hy] at e1 FN
                clear hy
                have y0 : (0 : Int) ≤ (t : Int) := by omega
                have y1 : (t : Int) < (l.length : Int) := by omega
                have y2 : decide ((t : Int) < (p : Int)) = true := decide_eq_true (by omega)
                cases f with
                | false =>
                  have F := Lib.hid (show Tells false (∀ i, i < t + 1 → l.getD i 0 ≠ x) from Tells.mk ⟨fun h => absurd h Bool.false_ne_true, fun h => HF.out.out.2 (FN.out.1 h).1⟩)
                  go_wp2_with fail
                  go_region
                  all_goals go_wp2
                  refine ⟨⟨t + 1, false, by omega, by go_num, rfl, F, Lib.hid (K5.out.trans (by first | exact Kp.drew _ | exact Kp.drewN _ _))⟩, by simp only [intOf]; omega⟩
                | true =>
                  by_cases yx : y = x
                  · have F := Lib.hid (show Tells false (∀ i, i < t + 1 → l.getD i 0 ≠ x) from Tells.mk ⟨fun h => absurd h Bool.false_ne_true, fun h => absurd yx (FN.out.1 h).2⟩)
                    have r1 : (y != x) = false := by simpa using yx
                    have YX := Lib.hid yx
                    clear yx
                    go_wp2_with fail
                    go_quiet (fail)
                    go_wp2
                    refine ⟨⟨t + 1, false, by omega, by go_num, rfl, F, Lib.hid (K5.out.trans (by first | exact Kp.drew _ | exact Kp.drewN _ _))⟩, by simp only [intOf]; omega⟩
                  · have F := Lib.hid (show Tells true (∀ i, i < t + 1 → l.getD i 0 ≠ x) from Tells.mk ⟨fun _ => FN.out.2 ⟨HF.out.out.1 rfl, yx⟩, fun _ => rfl⟩)
                    have r1 : (y != x) = true := by simpa using yx
                    go_wp2_with fail
                    go_quiet (fail)
                    go_wp2
                    refine ⟨⟨t + 1, true, by omega, by go_num, rfl, F, Lib.hid (K5.out.trans (by first | exact Kp.drew _ | exact Kp.drewN _ _))⟩, by simp only [intOf]; omega⟩
              · obtain rfl : t = p := by omega
                have y2 : decide ((t : Int) < (t : Int)) = false := by simp
                have d1 := RDp.out _ (K2.out.trans (K4.out.trans K5.out))
                have K45 := Lib.hid (K4.out.trans K5.out)
                cases f with
                | true =>
                  have SN := Lib.hid (show s + 1 = sumR (nf (sing l)) - sumR (nf (sing (l.take (l.length - (j + 1))))) by
                    have h1 := HSS.out
                    have h2 := ST.out
                    rw [NB.out, if_pos (HF.out.out.1 rfl)] at h2
                    rw [E2.out] at h1
                    rw [E1.out]
                    omega)
                  have ws : IntKind.i64.wrap (s + 1) = s + 1 := by rw [IntKind.wrap_i64]; omega
                  go_wp2_with fail
                  refine (CX.out _ K45.out).mono ?_
                  rintro e w6 ⟨rfl, k6⟩
                  have K6 := Lib.hid (K45.out.trans k6)
                  have O6 := Lib.hid (own_kp O4.out (K5.out.trans k6))
                  clear k6
                  go_wp2
                  refine ⟨⟨j + 1, q', s + 1, by omega, by rw [CPN.out], rfl, HQ2, rfl, SN, by omega, by omega, O6, K6⟩, by simp only [intOf]; omega⟩
                | false =>
                  have SN := Lib.hid (show s = sumR (nf (sing l)) - sumR (nf (sing (l.take (l.length - (j + 1))))) by
                    have h1 := HSS.out
                    have h2 := ST.out
                    rw [NB.out, if_neg (fun g => Bool.false_ne_true (HF.out.out.2 g))] at h2
                    rw [E2.out] at h1
                    rw [E1.out]
                    omega)
                  go_wp2_with fail
                  refine (CX.out _ K45.out).mono ?_
                  rintro e w6 ⟨rfl, k6⟩
                  have K6 := Lib.hid (K45.out.trans k6)
                  have O6 := Lib.hid (own_kp O4.out (K5.out.trans k6))
                  clear k6
                  go_wp2
                  refine ⟨⟨j + 1, q', s, by omega, by rw [CPN.out], rfl, HQ2, rfl, SN, by omega, by omega, O6, K6⟩, by simp only [intOf]; omega⟩
        · have SN := Lib.hid (show s = sumR (nf (sing l)) - sumR (nf (sing (l.take (l.length - (j + 1))))) by
            have h1 := HSS.out
            have h2 := ST.out
            rw [if_neg (fun g => ib g.1)] at h2
            rw [E2.out] at h1
            rw [E1.out]
            omega)
          have F := Lib.hid (show Tells q (lastIn l n (j + 1)) from Tells.mk ⟨fun h => LN.out.2 (.inl (HQ.out.out.1 h)), fun h => (LN.out.1 h).elim HQ.out.out.2 (fun g => absurd (show -1099511627776 ≤ x ∧ x ≤ 1099511627776 by rw [g.1]; exact g.2) ib)⟩)
          have cs : x < -1099511627776 ∨ (-1099511627776 ≤ x ∧ 1099511627776 < x) := by omega
          rcases cs with g | ⟨g, g2⟩
          · have q1 : decide (x < -1099511627776) = true := decide_eq_true g
            go_wp2
            refine ⟨⟨j + 1, q, s, by omega, by rw [CPN.out], rfl, F, rfl, SN, by omega, by omega, O4, K4⟩, by simp only [intOf]; omega⟩
          · have q1 : decide (x < -1099511627776) = false := decide_eq_false (by omega)
            have q2 : decide (1099511627776 < x) = true := decide_eq_true g2
            go_wp2
            refine ⟨⟨j + 1, q, s, by omega, by rw [CPN.out], rfl, F, rfl, SN, by omega, by omega, O4, K4⟩, by simp only [intOf]; omega⟩
      · obtain rfl : j = l.length := by omega
        have z2 : decide ((0 : Int) ≤ (l.length : Int) - 1 - (l.length : Int)) = false := decide_eq_false (by omega)
        have z3 : ¬ (0 : Int) ≤ (l.length : Int) - 1 - (l.length : Int) := by omega
        have ES : s = sumR (nf (sing l)) := by
          have := HSS.out
          rw [Nat.sub_self, List.take_zero] at this
          simpa [sing, nf, sumR] using this
        have EQ : q = hasB (nf (sing l)) n := bool_iff (HQ.out.out.trans (lastIn_all l n))
        have blen := backF_len l l.length
        have IA := Lib.hid (ints_own O.out)
        have D1 := Lib.hid (fun w' (k : Kp wr w') => of_any u9 (backF l l.length) w' (IA.out.kp k) (BI.out _ (Nat.le_refl _)) (by omega))
        rw [backF_nf] at D1
        subst ES EQ
        have DH := Lib.hid (fun w' (k : Kp w2 w') => CH.out n w' k b1 b2)
        clear HQ HSS blen O IA
        generalize hasB (nf (sing l)) n = q at *
        generalize sumR (nf (sing l)) = s at *
        go_wp2_with fail
        refine (CS.out _ K3.out).mono ?_
        rintro e w4 ⟨rfl, kk⟩
        have K4 := Lib.hid (K3.out.trans kk)
        have L4 := Lib.hid kk
        clear kk
        go_wp2_with fail
        refine (DH.out _ K4.out).mono ?_
        rintro e w5 ⟨rfl, kk⟩
        have K5 := Lib.hid (K4.out.trans kk)
        have L5 := Lib.hid (L4.out.trans kk)
        clear kk
        go_wp2_with fail
        refine (CC.out _ K5.out).mono ?_
        rintro e w6 ⟨rfl, kk⟩
        have K6 := Lib.hid (K5.out.trans kk)
        have L6 := Lib.hid (L5.out.trans kk)
        clear kk
        go_wp2_with fail
        refine (D1.out _ L6.out).mono ?_
        rintro e w7 ⟨v7, rfl, own7, kk⟩
        have K7 := Lib.hid (K6.out.trans kk)
        have D2 := Lib.hid (CE.out v7 w7 (runsAt_own own7) K7.out)
        clear kk own7
        go_wp2_with fail; refine (D2.out).mono ?_; rintro e w8 ⟨rfl, kk⟩; have K8 := Lib.hid (K7.out.trans kk); clear kk
        go_wp2
        go_ret
        exact ⟨rfl, K2.out.trans K8.out⟩
  · have g40 : decide ((40 : Int) < l.length) = true := decide_eq_true (by omega)
    have g40' : (40 : Int) < l.length := by omega
    clear hv
    go_enter Try.func5, Try.ntmps5
    go_wp2_with fail
    refine (awake04 _).mono ?_
    rintro e w1 ⟨rfl, k1⟩
    have K1 := Lib.hid k1
    clear k1
    go_wp2
    go_ret
    exact ⟨rfl, K1.out⟩
end Go.Proofs.Ytgaadakhkjfbnaa
