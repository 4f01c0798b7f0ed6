/-
  Layer 8: PointNear.
-/
import Derived.Test.YtbjnghmmfolaeaaDoorGL8
namespace Go.Proofs.YtbjnghmmfolaeaaDoor
open Go.RowKit
set_option linter.unusedVariables false
set_option linter.unusedSimpArgs false
theorem nxt_le : ∀ {l : List R}, sane l → ∀ {n m : Int}, n ≤ m → (((nxt l n).2 = true ∧ (nxt l n).1 ≤ m) ↔ ∃ r ∈ l, n ≤ r.2 ∧ r.1 ≤ m)
  | [], _, n, m, _ => by
    unfold nxt
    constructor
    · rintro ⟨h, _⟩; cases h
    · rintro ⟨r, h, _⟩; cases h
  | r :: t, h, n, m, hnm => by
    have ih := nxt_le (sane_tail h) hnm
    unfold nxt
    by_cases c : n ≤ r.2
    · rw [if_pos c]
      simp only [true_and]
      constructor
      · intro g
        exact ⟨r, by simp, c, by omega⟩
      · rintro ⟨q, hq, g1, g2⟩
        rcases List.mem_cons.1 hq with rfl | hq
        · omega
        · obtain ⟨o1, o2, o3⟩ := sane_ok (sane_tail h) q hq
          have := sane_beyond h q.1 ⟨q, hq, Int.le_refl _, o1, o2, by omega⟩
          have := (sane_head h).1
          omega
    · rw [if_neg c, ih]
      constructor
      · rintro ⟨q, hq, g⟩; exact ⟨q, by simp [hq], g⟩
      · rintro ⟨q, hq, g1, g2⟩
        rcases List.mem_cons.1 hq with rfl | hq
        · exact absurd g1 c
        · exact ⟨q, hq, g1, g2⟩
theorem growR_sane (p : PT) : sane (growR p) := interR_sane _ _
theorem growR_out {p : PT} {i : Int} (h : i < 0 ∨ cnt p.k ≤ i) : hasB (nf (growR p)) i = false := by
  rw [nf_of_sane (growR_sane p)]
  rcases Bool.eq_false_or_eq_true (hasB (growR p) i) with e | e
  · exfalso
    obtain ⟨r, hr, h1, h2⟩ := (hasB_in (growR_sane p) i).1 e
    obtain ⟨o1, o2, o3⟩ := sane_ok (growR_sane p) r hr
    have := ((interR_mem _ _ i).1 ⟨r, hr, h1, h2, by omega, by omega⟩).2
    obtain ⟨q, hq, g1, g2, _⟩ := this
    rw [List.mem_singleton.1 hq] at g1 g2
    simp only at g1 g2
    omega
  · exact e
theorem grK_rad (k : Int) : grK (radV k) = radV k := by
  have := radV_bd k
  unfold grK
  omega
/-- a set's numbers lie within the kind's -/
theorem setS_inn {p : PT} (he : setE p = 0) : sane (setS p) ∧ Inn 0 (cnt p.k - 1) (setS p) := by
  rcases setE_cases p with ⟨_, h1, h2, h3⟩ | ⟨_, ⟨h, _⟩ | ⟨h, _⟩⟩
  · rw [h3]; exact ⟨numR_sane p, numR_inn h1 h2⟩
  · rw [he] at h; cases h
  · rw [he] at h; cases h
theorem growR_has {p : PT} (he : setE p = 0) {i : Int} (h0 : 0 ≤ i) (h1 : i < cnt p.k) :
    hasB (nf (growR p)) i = ((nxt (nf (setS p)) (i - radV p.k)).2 && decide ((nxt (nf (setS p)) (i - radV p.k)).1 ≤ i + radV p.k)) := by
  obtain ⟨s1, s2⟩ := setS_inn he
  have rb := radV_bd p.k
  have cb := cnt_bd p.k
  rw [nf_of_sane (growR_sane p), nf_of_sane s1, Bool.eq_iff_iff, hasB_in (growR_sane p), Bool.and_eq_true, decide_eq_true_eq, nxt_le s1 (by omega)]
  have key : inL (growR p) i ↔ memR (growR p) i := by
    constructor
    · rintro ⟨r, hr, a, b⟩
      exact ⟨r, hr, a, b, by omega, by omega⟩
    · rintro ⟨r, hr, a, b, _⟩
      exact ⟨r, hr, a, b⟩
  rw [key]
  unfold growR
  rw [interR_mem, nf_mem, grK_rad, nf_of_sane s1]
  constructor
  · rintro ⟨⟨q, hq, a, b, _⟩, _⟩
    unfold shR at hq
    obtain ⟨r, hr, rfl⟩ := List.mem_map.1 hq
    simp only at a b
    exact ⟨r, hr, by omega, by omega⟩
  · rintro ⟨r, hr, a, b⟩
    refine ⟨⟨(r.1 + -radV p.k, r.2 + radV p.k), List.mem_map.2 ⟨r, hr, rfl⟩, by simp only; omega, by simp only; omega, by omega, by omega⟩, (0, cnt p.k - 1), by simp, h0, by simp only; omega, by omega, by omega⟩
theorem own_near {p : PT} (he : setE p = 0) {i : Int} (h0 : 0 ≤ i) (h1 : i < cnt p.k) (h : hasB (nf (setS p)) i = true) : hasB (nf (growR p)) i = true := by
  obtain ⟨s1, s2⟩ := setS_inn he
  have rb := radV_bd p.k
  rw [growR_has he h0 h1, Bool.and_eq_true, decide_eq_true_eq, nf_of_sane s1, nxt_le s1 (by omega)]
  rw [nf_of_sane s1, hasB_in s1] at h
  obtain ⟨r, hr, a, b⟩ := h
  exact ⟨r, hr, by omega, by omega⟩
theorem nxt_bd {l : List R} (h : sane l) (n : Int) (hn : -2000000000000 ≤ n ∧ n ≤ 2000000000000) : -2000000000000 ≤ (nxt l n).1 ∧ (nxt l n).1 ≤ 2000000000000 := by
  induction l with
  | nil => unfold nxt; simp
  | cons r t ih =>
    unfold nxt
    split
    · have := sane_head h
      unfold okR at this
      simp only
      omega
    · exact ih (sane_tail h)
theorem nearE_cases (p : PT) : (setE p ≠ 0 ∧ nearE p = setE p ∧ nearS p = [] ∧ setS p = []) ∨ (setE p = 0 ∧ nearE p = 8 ∧ nearS p = []) ∨ (setE p = 0 ∧ nearE p = 0 ∧ nearS p = growR p) := by
  unfold nearE nearS
  by_cases h : setE p = 0
  · rw [if_pos h, if_pos h]
    by_cases g : edgB p.k (growR p) = true
    · rw [if_pos g, if_pos g]; exact .inr (.inr ⟨h, rfl, rfl⟩)
    · rw [if_neg g, if_neg g]; exact .inr (.inl ⟨h, rfl, rfl⟩)
  · rw [if_neg h, if_neg h]
    rcases setE_cases p with ⟨a, _⟩ | ⟨a, _⟩
    · exact absurd a h
    · exact .inl ⟨h, rfl, rfl, a⟩
set_option maxHeartbeats 16000000 in
set_option maxRecDepth 100000 in
theorem near_0 (p : PT) (i : Int) (w : World) (hp1 : -9223372036854775808 ≤ p.k) (hp2 : p.k ≤ 9223372036854775807) (hi1 : -9223372036854775808 ≤ i) (hi2 : i ≤ 9223372036854775807) (T : Tabs8 w) (hs : shortP p = false) :
    Calls Tryd.prog 5 #[ptV p, .int .i64 i] w fun e w' => e = .returned (.bool true) ∧ Kp w w' := by
  have AW := Lib.hid (fun w1 (kk : Kp w w1) => awake08 w1 (T.kp kk))
  have SH := Lib.hid (fun w1 (kk : Kp w w1) => short_any p w1)
  rw [hs] at SH
  clear hs T
  obtain ⟨kp, yp, mp, dp⟩ := p
  unfold ptV at *
  simp only at *
  obtain ⟨W0, hW⟩ : ∃ W0, W0 = w.alloc (.cells #[.int .i64 kp, .string yp, .string mp, .string dp] 23) := ⟨_, rfl⟩
  have K00 := Lib.hid (show Kp w W0 by rw [hW]; exact Kp.alloc _ _)
  have HB := Lib.hid (fun w1 (k : Kp W0 w1) => show w1.cell? ⟨w.heap.size, 0, none⟩ = some (.int .i64 kp) ∧ w1.cell? ⟨w.heap.size, 1, none⟩ = some (.string yp) ∧ w1.cell? ⟨w.heap.size, 2, none⟩ = some (.string mp) ∧ w1.cell? ⟨w.heap.size, 3, none⟩ = some (.string dp) from ⟨cell_up k (show W0.cell? ⟨w.heap.size, 0, none⟩ = some (.int .i64 kp) by rw [hW]; simp), cell_up k (show W0.cell? ⟨w.heap.size, 1, none⟩ = some (.string yp) by rw [hW]; simp), cell_up k (show W0.cell? ⟨w.heap.size, 2, none⟩ = some (.string mp) by rw [hW]; simp), cell_up k (show W0.cell? ⟨w.heap.size, 3, none⟩ = some (.string dp) by rw [hW]; simp)⟩)
  obtain ⟨c0, c1, c2, c3⟩ := HB.out W0 (Kp.refl _)
  have K0 := Lib.hid (Kp.refl W0)
  have HW := Lib.hid hW
  clear hW
  go_enter Tryd.func5, Tryd.ntmps5
  go_wp2_with fail
  rw [← HW.out]
  refine (AW.out _ (K00.out.trans (by first | with_reducible exact K0.out | with_reducible exact K0.out.trans (Kp.alloc _ _) | with_reducible exact (K0.out.trans (Kp.alloc _ _)).trans (Kp.alloc _ _) | with_reducible exact ((K0.out.trans (Kp.alloc _ _)).trans (Kp.alloc _ _)).trans (Kp.alloc _ _) | with_reducible exact K0.out.trans (Kp.drew _) | with_reducible exact K0.out.trans (Kp.drewN _ _)))).mono ?_
  rintro e w1 ⟨rfl, kk⟩
  have K1 := Lib.hid ((show Kp W0 _ from (by first | with_reducible exact K0.out | with_reducible exact K0.out.trans (Kp.alloc _ _) | with_reducible exact (K0.out.trans (Kp.alloc _ _)).trans (Kp.alloc _ _) | with_reducible exact ((K0.out.trans (Kp.alloc _ _)).trans (Kp.alloc _ _)).trans (Kp.alloc _ _) | with_reducible exact K0.out.trans (Kp.drew _) | with_reducible exact K0.out.trans (Kp.drewN _ _))).trans kk)
  clear kk
  clear c0 c1 c2 c3
  obtain ⟨c0, c1, c2, c3⟩ := HB.out w1 K1.out
  go_wp2_with fail
  refine (SH.out _ (K00.out.trans (by first | with_reducible exact K1.out | with_reducible exact K1.out.trans (Kp.alloc _ _) | with_reducible exact (K1.out.trans (Kp.alloc _ _)).trans (Kp.alloc _ _) | with_reducible exact ((K1.out.trans (Kp.alloc _ _)).trans (Kp.alloc _ _)).trans (Kp.alloc _ _) | with_reducible exact K1.out.trans (Kp.drew _) | with_reducible exact K1.out.trans (Kp.drewN _ _)))).mono ?_
  rintro e w2 ⟨rfl, kk⟩
  have K2 := Lib.hid ((show Kp W0 _ from (by first | with_reducible exact K1.out | with_reducible exact K1.out.trans (Kp.alloc _ _) | with_reducible exact (K1.out.trans (Kp.alloc _ _)).trans (Kp.alloc _ _) | with_reducible exact ((K1.out.trans (Kp.alloc _ _)).trans (Kp.alloc _ _)).trans (Kp.alloc _ _) | with_reducible exact K1.out.trans (Kp.drew _) | with_reducible exact K1.out.trans (Kp.drewN _ _))).trans kk)
  clear kk
  clear c0 c1 c2 c3
  obtain ⟨c0, c1, c2, c3⟩ := HB.out w2 K2.out
  go_wp2
  go_ret
  exact ⟨rfl, K00.out.trans K2.out⟩
set_option maxHeartbeats 16000000 in
set_option maxRecDepth 100000 in
theorem near_e (p : PT) (i : Int) (w : World) (hp1 : -9223372036854775808 ≤ p.k) (hp2 : p.k ≤ 9223372036854775807) (hi1 : -9223372036854775808 ≤ i) (hi2 : i ≤ 9223372036854775807) (T : Tabs8 w) (hs : shortP p = true) (he : setE p ≠ 0) (hf : nearE p = setE p) (hN : nearS p = []) (hR : setS p = []) :
    Calls Tryd.prog 5 #[ptV p, .int .i64 i] w fun e w' => e = .returned (.bool true) ∧ Kp w w' := by
  have AW := Lib.hid (fun w1 (kk : Kp w w1) => awake08 w1 (T.kp kk))
  have SH := Lib.hid (fun w1 (kk : Kp w w1) => short_any p w1)
  rw [hs] at SH
  have ST := fun w1 (kk : Kp w w1) => pset_any p w1 (T.kp kk)
  have NR := fun w1 (kk : Kp w w1) => pnear_any p w1 (T.kp kk)
  rw [hR] at ST
  rw [hf, hN] at NR
  have STH := Lib.hid ST
  have NRH := Lib.hid NR
  have qe : (setE p == 0) = false := beq_eq_false_iff_ne.2 he
  generalize setE p = er at *
  clear hs he hf hN hR T ST NR
  obtain ⟨kp, yp, mp, dp⟩ := p
  unfold ptV at *
  simp only at *
  obtain ⟨W0, hW⟩ : ∃ W0, W0 = w.alloc (.cells #[.int .i64 kp, .string yp, .string mp, .string dp] 23) := ⟨_, rfl⟩
  have K00 := Lib.hid (show Kp w W0 by rw [hW]; exact Kp.alloc _ _)
  have HB := Lib.hid (fun w1 (k : Kp W0 w1) => show w1.cell? ⟨w.heap.size, 0, none⟩ = some (.int .i64 kp) ∧ w1.cell? ⟨w.heap.size, 1, none⟩ = some (.string yp) ∧ w1.cell? ⟨w.heap.size, 2, none⟩ = some (.string mp) ∧ w1.cell? ⟨w.heap.size, 3, none⟩ = some (.string dp) from ⟨cell_up k (show W0.cell? ⟨w.heap.size, 0, none⟩ = some (.int .i64 kp) by rw [hW]; simp), cell_up k (show W0.cell? ⟨w.heap.size, 1, none⟩ = some (.string yp) by rw [hW]; simp), cell_up k (show W0.cell? ⟨w.heap.size, 2, none⟩ = some (.string mp) by rw [hW]; simp), cell_up k (show W0.cell? ⟨w.heap.size, 3, none⟩ = some (.string dp) by rw [hW]; simp)⟩)
  obtain ⟨c0, c1, c2, c3⟩ := HB.out W0 (Kp.refl _)
  have K0 := Lib.hid (Kp.refl W0)
  have HW := Lib.hid hW
  clear hW
  go_enter Tryd.func5, Tryd.ntmps5
  go_wp2_with fail
  rw [← HW.out]
  refine (AW.out _ (K00.out.trans (by first | with_reducible exact K0.out | with_reducible exact K0.out.trans (Kp.alloc _ _) | with_reducible exact (K0.out.trans (Kp.alloc _ _)).trans (Kp.alloc _ _) | with_reducible exact ((K0.out.trans (Kp.alloc _ _)).trans (Kp.alloc _ _)).trans (Kp.alloc _ _) | with_reducible exact K0.out.trans (Kp.drew _) | with_reducible exact K0.out.trans (Kp.drewN _ _)))).mono ?_
  rintro e w1 ⟨rfl, kk⟩
  have K1 := Lib.hid ((show Kp W0 _ from (by first | with_reducible exact K0.out | with_reducible exact K0.out.trans (Kp.alloc _ _) | with_reducible exact (K0.out.trans (Kp.alloc _ _)).trans (Kp.alloc _ _) | with_reducible exact ((K0.out.trans (Kp.alloc _ _)).trans (Kp.alloc _ _)).trans (Kp.alloc _ _) | with_reducible exact K0.out.trans (Kp.drew _) | with_reducible exact K0.out.trans (Kp.drewN _ _))).trans kk)
  clear kk
  clear c0 c1 c2 c3
  obtain ⟨c0, c1, c2, c3⟩ := HB.out w1 K1.out
  go_wp2_with fail
  refine (SH.out _ (K00.out.trans (by first | with_reducible exact K1.out | with_reducible exact K1.out.trans (Kp.alloc _ _) | with_reducible exact (K1.out.trans (Kp.alloc _ _)).trans (Kp.alloc _ _) | with_reducible exact ((K1.out.trans (Kp.alloc _ _)).trans (Kp.alloc _ _)).trans (Kp.alloc _ _) | with_reducible exact K1.out.trans (Kp.drew _) | with_reducible exact K1.out.trans (Kp.drewN _ _)))).mono ?_
  rintro e w2 ⟨rfl, kk⟩
  have K2 := Lib.hid ((show Kp W0 _ from (by first | with_reducible exact K1.out | with_reducible exact K1.out.trans (Kp.alloc _ _) | with_reducible exact (K1.out.trans (Kp.alloc _ _)).trans (Kp.alloc _ _) | with_reducible exact ((K1.out.trans (Kp.alloc _ _)).trans (Kp.alloc _ _)).trans (Kp.alloc _ _) | with_reducible exact K1.out.trans (Kp.drew _) | with_reducible exact K1.out.trans (Kp.drewN _ _))).trans kk)
  clear kk
  clear c0 c1 c2 c3
  obtain ⟨c0, c1, c2, c3⟩ := HB.out w2 K2.out
  go_wp2_with fail
  refine (STH.out _ (K00.out.trans (by first | with_reducible exact K2.out | with_reducible exact K2.out.trans (Kp.alloc _ _) | with_reducible exact (K2.out.trans (Kp.alloc _ _)).trans (Kp.alloc _ _) | with_reducible exact ((K2.out.trans (Kp.alloc _ _)).trans (Kp.alloc _ _)).trans (Kp.alloc _ _) | with_reducible exact K2.out.trans (Kp.drew _) | with_reducible exact K2.out.trans (Kp.drewN _ _)))).mono ?_
  rintro e w3 ⟨v3, rfl, own3, kk⟩
  have K3 := Lib.hid ((show Kp W0 _ from (by first | with_reducible exact K2.out | with_reducible exact K2.out.trans (Kp.alloc _ _) | with_reducible exact (K2.out.trans (Kp.alloc _ _)).trans (Kp.alloc _ _) | with_reducible exact ((K2.out.trans (Kp.alloc _ _)).trans (Kp.alloc _ _)).trans (Kp.alloc _ _) | with_reducible exact K2.out.trans (Kp.drew _) | with_reducible exact K2.out.trans (Kp.drewN _ _))).trans kk)
  have RS := Lib.hid (fun w1 (q : Kp w3 w1) => (runsAt_own own3).kp q)
  obtain ⟨aS, cS, rfl⟩ := own_slice own3
  clear own3
  clear kk
  clear c0 c1 c2 c3
  obtain ⟨c0, c1, c2, c3⟩ := HB.out w3 K3.out
  have G3_3 := Lib.hid (Kp.refl w3)
  go_wp2_with fail
  refine (NRH.out _ (K00.out.trans (by first | with_reducible exact K3.out | with_reducible exact K3.out.trans (Kp.alloc _ _) | with_reducible exact (K3.out.trans (Kp.alloc _ _)).trans (Kp.alloc _ _) | with_reducible exact ((K3.out.trans (Kp.alloc _ _)).trans (Kp.alloc _ _)).trans (Kp.alloc _ _) | with_reducible exact K3.out.trans (Kp.drew _) | with_reducible exact K3.out.trans (Kp.drewN _ _)))).mono ?_
  rintro e w4 ⟨v4, rfl, own4, kk⟩
  have K4 := Lib.hid ((show Kp W0 _ from (by first | with_reducible exact K3.out | with_reducible exact K3.out.trans (Kp.alloc _ _) | with_reducible exact (K3.out.trans (Kp.alloc _ _)).trans (Kp.alloc _ _) | with_reducible exact ((K3.out.trans (Kp.alloc _ _)).trans (Kp.alloc _ _)).trans (Kp.alloc _ _) | with_reducible exact K3.out.trans (Kp.drew _) | with_reducible exact K3.out.trans (Kp.drewN _ _))).trans kk)
  have G3_4 := Lib.hid (G3_3.out.trans ((show Kp w3 _ from (by first | with_reducible exact Kp.refl _ | with_reducible exact Kp.alloc _ _ | with_reducible exact (Kp.alloc _ _).trans (Kp.alloc _ _) | with_reducible exact ((Kp.alloc _ _).trans (Kp.alloc _ _)).trans (Kp.alloc _ _) | with_reducible exact Kp.drew _ | with_reducible exact Kp.drewN _ _)).trans kk))
  have RN := Lib.hid (fun w1 (q : Kp w4 w1) => (runsAt_own own4).kp q)
  obtain ⟨aN, cN, rfl⟩ := own_slice own4
  clear own4
  clear kk
  clear c0 c1 c2 c3
  obtain ⟨c0, c1, c2, c3⟩ := HB.out w4 K4.out
  have G4_4 := Lib.hid (Kp.refl w4)
  go_wp2
  go_ret
  exact ⟨rfl, K00.out.trans K4.out⟩
set_option maxHeartbeats 16000000 in
set_option maxRecDepth 100000 in
theorem near_f (p : PT) (i : Int) (w : World) (hp1 : -9223372036854775808 ≤ p.k) (hp2 : p.k ≤ 9223372036854775807) (hi1 : -9223372036854775808 ≤ i) (hi2 : i ≤ 9223372036854775807) (T : Tabs8 w) (hs : shortP p = true) (he : setE p = 0) (hf : nearE p = 8) (hN : nearS p = []) :
    Calls Tryd.prog 5 #[ptV p, .int .i64 i] w fun e w' => e = .returned (.bool true) ∧ Kp w w' := by
  have AW := Lib.hid (fun w1 (kk : Kp w w1) => awake08 w1 (T.kp kk))
  have SH := Lib.hid (fun w1 (kk : Kp w w1) => short_any p w1)
  rw [hs] at SH
  have ST := fun w1 (kk : Kp w w1) => pset_any p w1 (T.kp kk)
  have NR := fun w1 (kk : Kp w w1) => pnear_any p w1 (T.kp kk)
  rw [he] at ST
  rw [hf, hN] at NR
  have STH := Lib.hid ST
  have NRH := Lib.hid NR
  generalize setS p = S at *
  clear hs he hf hN T ST NR
  obtain ⟨kp, yp, mp, dp⟩ := p
  unfold ptV at *
  simp only at *
  obtain ⟨W0, hW⟩ : ∃ W0, W0 = w.alloc (.cells #[.int .i64 kp, .string yp, .string mp, .string dp] 23) := ⟨_, rfl⟩
  have K00 := Lib.hid (show Kp w W0 by rw [hW]; exact Kp.alloc _ _)
  have HB := Lib.hid (fun w1 (k : Kp W0 w1) => show w1.cell? ⟨w.heap.size, 0, none⟩ = some (.int .i64 kp) ∧ w1.cell? ⟨w.heap.size, 1, none⟩ = some (.string yp) ∧ w1.cell? ⟨w.heap.size, 2, none⟩ = some (.string mp) ∧ w1.cell? ⟨w.heap.size, 3, none⟩ = some (.string dp) from ⟨cell_up k (show W0.cell? ⟨w.heap.size, 0, none⟩ = some (.int .i64 kp) by rw [hW]; simp), cell_up k (show W0.cell? ⟨w.heap.size, 1, none⟩ = some (.string yp) by rw [hW]; simp), cell_up k (show W0.cell? ⟨w.heap.size, 2, none⟩ = some (.string mp) by rw [hW]; simp), cell_up k (show W0.cell? ⟨w.heap.size, 3, none⟩ = some (.string dp) by rw [hW]; simp)⟩)
  obtain ⟨c0, c1, c2, c3⟩ := HB.out W0 (Kp.refl _)
  have K0 := Lib.hid (Kp.refl W0)
  have HW := Lib.hid hW
  clear hW
  go_enter Tryd.func5, Tryd.ntmps5
  go_wp2_with fail
  rw [← HW.out]
  refine (AW.out _ (K00.out.trans (by first | with_reducible exact K0.out | with_reducible exact K0.out.trans (Kp.alloc _ _) | with_reducible exact (K0.out.trans (Kp.alloc _ _)).trans (Kp.alloc _ _) | with_reducible exact ((K0.out.trans (Kp.alloc _ _)).trans (Kp.alloc _ _)).trans (Kp.alloc _ _) | with_reducible exact K0.out.trans (Kp.drew _) | with_reducible exact K0.out.trans (Kp.drewN _ _)))).mono ?_
  rintro e w1 ⟨rfl, kk⟩
  have K1 := Lib.hid ((show Kp W0 _ from (by first | with_reducible exact K0.out | with_reducible exact K0.out.trans (Kp.alloc _ _) | with_reducible exact (K0.out.trans (Kp.alloc _ _)).trans (Kp.alloc _ _) | with_reducible exact ((K0.out.trans (Kp.alloc _ _)).trans (Kp.alloc _ _)).trans (Kp.alloc _ _) | with_reducible exact K0.out.trans (Kp.drew _) | with_reducible exact K0.out.trans (Kp.drewN _ _))).trans kk)
  clear kk
  clear c0 c1 c2 c3
  obtain ⟨c0, c1, c2, c3⟩ := HB.out w1 K1.out
  go_wp2_with fail
  refine (SH.out _ (K00.out.trans (by first | with_reducible exact K1.out | with_reducible exact K1.out.trans (Kp.alloc _ _) | with_reducible exact (K1.out.trans (Kp.alloc _ _)).trans (Kp.alloc _ _) | with_reducible exact ((K1.out.trans (Kp.alloc _ _)).trans (Kp.alloc _ _)).trans (Kp.alloc _ _) | with_reducible exact K1.out.trans (Kp.drew _) | with_reducible exact K1.out.trans (Kp.drewN _ _)))).mono ?_
  rintro e w2 ⟨rfl, kk⟩
  have K2 := Lib.hid ((show Kp W0 _ from (by first | with_reducible exact K1.out | with_reducible exact K1.out.trans (Kp.alloc _ _) | with_reducible exact (K1.out.trans (Kp.alloc _ _)).trans (Kp.alloc _ _) | with_reducible exact ((K1.out.trans (Kp.alloc _ _)).trans (Kp.alloc _ _)).trans (Kp.alloc _ _) | with_reducible exact K1.out.trans (Kp.drew _) | with_reducible exact K1.out.trans (Kp.drewN _ _))).trans kk)
  clear kk
  clear c0 c1 c2 c3
  obtain ⟨c0, c1, c2, c3⟩ := HB.out w2 K2.out
  go_wp2_with fail
  refine (STH.out _ (K00.out.trans (by first | with_reducible exact K2.out | with_reducible exact K2.out.trans (Kp.alloc _ _) | with_reducible exact (K2.out.trans (Kp.alloc _ _)).trans (Kp.alloc _ _) | with_reducible exact ((K2.out.trans (Kp.alloc _ _)).trans (Kp.alloc _ _)).trans (Kp.alloc _ _) | with_reducible exact K2.out.trans (Kp.drew _) | with_reducible exact K2.out.trans (Kp.drewN _ _)))).mono ?_
  rintro e w3 ⟨v3, rfl, own3, kk⟩
  have K3 := Lib.hid ((show Kp W0 _ from (by first | with_reducible exact K2.out | with_reducible exact K2.out.trans (Kp.alloc _ _) | with_reducible exact (K2.out.trans (Kp.alloc _ _)).trans (Kp.alloc _ _) | with_reducible exact ((K2.out.trans (Kp.alloc _ _)).trans (Kp.alloc _ _)).trans (Kp.alloc _ _) | with_reducible exact K2.out.trans (Kp.drew _) | with_reducible exact K2.out.trans (Kp.drewN _ _))).trans kk)
  have RS := Lib.hid (fun w1 (q : Kp w3 w1) => (runsAt_own own3).kp q)
  obtain ⟨aS, cS, rfl⟩ := own_slice own3
  clear own3
  clear kk
  clear c0 c1 c2 c3
  obtain ⟨c0, c1, c2, c3⟩ := HB.out w3 K3.out
  have G3_3 := Lib.hid (Kp.refl w3)
  go_wp2_with fail
  refine (NRH.out _ (K00.out.trans (by first | with_reducible exact K3.out | with_reducible exact K3.out.trans (Kp.alloc _ _) | with_reducible exact (K3.out.trans (Kp.alloc _ _)).trans (Kp.alloc _ _) | with_reducible exact ((K3.out.trans (Kp.alloc _ _)).trans (Kp.alloc _ _)).trans (Kp.alloc _ _) | with_reducible exact K3.out.trans (Kp.drew _) | with_reducible exact K3.out.trans (Kp.drewN _ _)))).mono ?_
  rintro e w4 ⟨v4, rfl, own4, kk⟩
  have K4 := Lib.hid ((show Kp W0 _ from (by first | with_reducible exact K3.out | with_reducible exact K3.out.trans (Kp.alloc _ _) | with_reducible exact (K3.out.trans (Kp.alloc _ _)).trans (Kp.alloc _ _) | with_reducible exact ((K3.out.trans (Kp.alloc _ _)).trans (Kp.alloc _ _)).trans (Kp.alloc _ _) | with_reducible exact K3.out.trans (Kp.drew _) | with_reducible exact K3.out.trans (Kp.drewN _ _))).trans kk)
  have G3_4 := Lib.hid (G3_3.out.trans ((show Kp w3 _ from (by first | with_reducible exact Kp.refl _ | with_reducible exact Kp.alloc _ _ | with_reducible exact (Kp.alloc _ _).trans (Kp.alloc _ _) | with_reducible exact ((Kp.alloc _ _).trans (Kp.alloc _ _)).trans (Kp.alloc _ _) | with_reducible exact Kp.drew _ | with_reducible exact Kp.drewN _ _)).trans kk))
  have RN := Lib.hid (fun w1 (q : Kp w4 w1) => (runsAt_own own4).kp q)
  obtain ⟨aN, cN, rfl⟩ := own_slice own4
  clear own4
  clear kk
  clear c0 c1 c2 c3
  obtain ⟨c0, c1, c2, c3⟩ := HB.out w4 K4.out
  have G4_4 := Lib.hid (Kp.refl w4)
  go_wp2
  go_ret
  exact ⟨rfl, K00.out.trans K4.out⟩
set_option maxHeartbeats 16000000 in
set_option maxRecDepth 100000 in
theorem near_lo (p : PT) (i : Int) (w : World) (hp1 : -9223372036854775808 ≤ p.k) (hp2 : p.k ≤ 9223372036854775807) (hi1 : -9223372036854775808 ≤ i) (hi2 : i ≤ 9223372036854775807) (T : Tabs8 w) (hs : shortP p = true) (he : setE p = 0) (hf : nearE p = 0) (hN : nearS p = growR p) (hi : i < 0) :
    Calls Tryd.prog 5 #[ptV p, .int .i64 i] w fun e w' => e = .returned (.bool true) ∧ Kp w w' := by
  have AW := Lib.hid (fun w1 (kk : Kp w w1) => awake08 w1 (T.kp kk))
  have SH := Lib.hid (fun w1 (kk : Kp w w1) => short_any p w1)
  rw [hs] at SH
  have ST := fun w1 (kk : Kp w w1) => pset_any p w1 (T.kp kk)
  have NR := fun w1 (kk : Kp w w1) => pnear_any p w1 (T.kp kk)
  rw [he] at ST
  rw [hf, hN] at NR
  have STH := Lib.hid ST
  have NRH := Lib.hid NR
  have CUc := Lib.hid (fun w1 (kk : Kp w w1) => countC p.k w1 (T.kp kk).1)
  have GL := growR_len p
  have GS := growR_sane p
  have SL := setS_len p
  have SI := setS_inn he
  have CHN := fun ad c w1 (h : RunsAt w1 (.slice ad (growR p).length c) (growR p)) => has_any ad c (growR p) i w1 h (sane_i64 GS) (by omega) hi1 hi2
  have CHS := fun ad c w1 (h : RunsAt w1 (.slice ad (setS p).length c) (setS p)) => has_any ad c (setS p) i w1 h (sane_i64 SI.1) (by omega) hi1 hi2
  have CSn := Lib.hid (fun v w1 (h : RunsAt w1 v (growR p)) => sane_yes v (growR p) w1 h GS)
  have ck := cnt_bd p.k
  have rb := radV_bd p.k
  rw [growR_out (.inl hi)] at CHN
  have g1 : decide (i < 0) = true := decide_eq_true hi
  have CHNH := Lib.hid CHN
  generalize cnt p.k = cu at *
  generalize growR p = G at *
  generalize setS p = S at *
  clear hs he hf hN T ST NR GL GS SL SI CHN CHS hi
  obtain ⟨kp, yp, mp, dp⟩ := p
  unfold ptV at *
  simp only at *
  obtain ⟨W0, hW⟩ : ∃ W0, W0 = w.alloc (.cells #[.int .i64 kp, .string yp, .string mp, .string dp] 23) := ⟨_, rfl⟩
  have K00 := Lib.hid (show Kp w W0 by rw [hW]; exact Kp.alloc _ _)
  have HB := Lib.hid (fun w1 (k : Kp W0 w1) => show w1.cell? ⟨w.heap.size, 0, none⟩ = some (.int .i64 kp) ∧ w1.cell? ⟨w.heap.size, 1, none⟩ = some (.string yp) ∧ w1.cell? ⟨w.heap.size, 2, none⟩ = some (.string mp) ∧ w1.cell? ⟨w.heap.size, 3, none⟩ = some (.string dp) from ⟨cell_up k (show W0.cell? ⟨w.heap.size, 0, none⟩ = some (.int .i64 kp) by rw [hW]; simp), cell_up k (show W0.cell? ⟨w.heap.size, 1, none⟩ = some (.string yp) by rw [hW]; simp), cell_up k (show W0.cell? ⟨w.heap.size, 2, none⟩ = some (.string mp) by rw [hW]; simp), cell_up k (show W0.cell? ⟨w.heap.size, 3, none⟩ = some (.string dp) by rw [hW]; simp)⟩)
  obtain ⟨c0, c1, c2, c3⟩ := HB.out W0 (Kp.refl _)
  have K0 := Lib.hid (Kp.refl W0)
  have HW := Lib.hid hW
  clear hW
  go_enter Tryd.func5, Tryd.ntmps5
  go_wp2_with fail
  rw [← HW.out]
  refine (AW.out _ (K00.out.trans (by first | with_reducible exact K0.out | with_reducible exact K0.out.trans (Kp.alloc _ _) | with_reducible exact (K0.out.trans (Kp.alloc _ _)).trans (Kp.alloc _ _) | with_reducible exact ((K0.out.trans (Kp.alloc _ _)).trans (Kp.alloc _ _)).trans (Kp.alloc _ _) | with_reducible exact K0.out.trans (Kp.drew _) | with_reducible exact K0.out.trans (Kp.drewN _ _)))).mono ?_
  rintro e w1 ⟨rfl, kk⟩
  have K1 := Lib.hid ((show Kp W0 _ from (by first | with_reducible exact K0.out | with_reducible exact K0.out.trans (Kp.alloc _ _) | with_reducible exact (K0.out.trans (Kp.alloc _ _)).trans (Kp.alloc _ _) | with_reducible exact ((K0.out.trans (Kp.alloc _ _)).trans (Kp.alloc _ _)).trans (Kp.alloc _ _) | with_reducible exact K0.out.trans (Kp.drew _) | with_reducible exact K0.out.trans (Kp.drewN _ _))).trans kk)
  clear kk
  clear c0 c1 c2 c3
  obtain ⟨c0, c1, c2, c3⟩ := HB.out w1 K1.out
  go_wp2_with fail
  refine (SH.out _ (K00.out.trans (by first | with_reducible exact K1.out | with_reducible exact K1.out.trans (Kp.alloc _ _) | with_reducible exact (K1.out.trans (Kp.alloc _ _)).trans (Kp.alloc _ _) | with_reducible exact ((K1.out.trans (Kp.alloc _ _)).trans (Kp.alloc _ _)).trans (Kp.alloc _ _) | with_reducible exact K1.out.trans (Kp.drew _) | with_reducible exact K1.out.trans (Kp.drewN _ _)))).mono ?_
  rintro e w2 ⟨rfl, kk⟩
  have K2 := Lib.hid ((show Kp W0 _ from (by first | with_reducible exact K1.out | with_reducible exact K1.out.trans (Kp.alloc _ _) | with_reducible exact (K1.out.trans (Kp.alloc _ _)).trans (Kp.alloc _ _) | with_reducible exact ((K1.out.trans (Kp.alloc _ _)).trans (Kp.alloc _ _)).trans (Kp.alloc _ _) | with_reducible exact K1.out.trans (Kp.drew _) | with_reducible exact K1.out.trans (Kp.drewN _ _))).trans kk)
  clear kk
  clear c0 c1 c2 c3
  obtain ⟨c0, c1, c2, c3⟩ := HB.out w2 K2.out
  go_wp2_with fail
  refine (STH.out _ (K00.out.trans (by first | with_reducible exact K2.out | with_reducible exact K2.out.trans (Kp.alloc _ _) | with_reducible exact (K2.out.trans (Kp.alloc _ _)).trans (Kp.alloc _ _) | with_reducible exact ((K2.out.trans (Kp.alloc _ _)).trans (Kp.alloc _ _)).trans (Kp.alloc _ _) | with_reducible exact K2.out.trans (Kp.drew _) | with_reducible exact K2.out.trans (Kp.drewN _ _)))).mono ?_
  rintro e w3 ⟨v3, rfl, own3, kk⟩
  have K3 := Lib.hid ((show Kp W0 _ from (by first | with_reducible exact K2.out | with_reducible exact K2.out.trans (Kp.alloc _ _) | with_reducible exact (K2.out.trans (Kp.alloc _ _)).trans (Kp.alloc _ _) | with_reducible exact ((K2.out.trans (Kp.alloc _ _)).trans (Kp.alloc _ _)).trans (Kp.alloc _ _) | with_reducible exact K2.out.trans (Kp.drew _) | with_reducible exact K2.out.trans (Kp.drewN _ _))).trans kk)
  have RS := Lib.hid (fun w1 (q : Kp w3 w1) => (runsAt_own own3).kp q)
  obtain ⟨aS, cS, rfl⟩ := own_slice own3
  clear own3
  clear kk
  clear c0 c1 c2 c3
  obtain ⟨c0, c1, c2, c3⟩ := HB.out w3 K3.out
  have G3_3 := Lib.hid (Kp.refl w3)
  go_wp2_with fail
  refine (NRH.out _ (K00.out.trans (by first | with_reducible exact K3.out | with_reducible exact K3.out.trans (Kp.alloc _ _) | with_reducible exact (K3.out.trans (Kp.alloc _ _)).trans (Kp.alloc _ _) | with_reducible exact ((K3.out.trans (Kp.alloc _ _)).trans (Kp.alloc _ _)).trans (Kp.alloc _ _) | with_reducible exact K3.out.trans (Kp.drew _) | with_reducible exact K3.out.trans (Kp.drewN _ _)))).mono ?_
  rintro e w4 ⟨v4, rfl, own4, kk⟩
  have K4 := Lib.hid ((show Kp W0 _ from (by first | with_reducible exact K3.out | with_reducible exact K3.out.trans (Kp.alloc _ _) | with_reducible exact (K3.out.trans (Kp.alloc _ _)).trans (Kp.alloc _ _) | with_reducible exact ((K3.out.trans (Kp.alloc _ _)).trans (Kp.alloc _ _)).trans (Kp.alloc _ _) | with_reducible exact K3.out.trans (Kp.drew _) | with_reducible exact K3.out.trans (Kp.drewN _ _))).trans kk)
  have G3_4 := Lib.hid (G3_3.out.trans ((show Kp w3 _ from (by first | with_reducible exact Kp.refl _ | with_reducible exact Kp.alloc _ _ | with_reducible exact (Kp.alloc _ _).trans (Kp.alloc _ _) | with_reducible exact ((Kp.alloc _ _).trans (Kp.alloc _ _)).trans (Kp.alloc _ _) | with_reducible exact Kp.drew _ | with_reducible exact Kp.drewN _ _)).trans kk))
  have RN := Lib.hid (fun w1 (q : Kp w4 w1) => (runsAt_own own4).kp q)
  obtain ⟨aN, cN, rfl⟩ := own_slice own4
  clear own4
  clear kk
  clear c0 c1 c2 c3
  obtain ⟨c0, c1, c2, c3⟩ := HB.out w4 K4.out
  have G4_4 := Lib.hid (Kp.refl w4)
  go_wp2_with fail
  refine (CHNH.out _ _ _ (RN.out _ (G4_4.out.trans (by first | with_reducible exact Kp.refl _ | with_reducible exact Kp.alloc _ _ | with_reducible exact (Kp.alloc _ _).trans (Kp.alloc _ _) | with_reducible exact ((Kp.alloc _ _).trans (Kp.alloc _ _)).trans (Kp.alloc _ _) | with_reducible exact Kp.drew _ | with_reducible exact Kp.drewN _ _)))).mono ?_
  rintro e w5 ⟨rfl, kk⟩
  have K5 := Lib.hid ((show Kp W0 _ from (by first | with_reducible exact K4.out | with_reducible exact K4.out.trans (Kp.alloc _ _) | with_reducible exact (K4.out.trans (Kp.alloc _ _)).trans (Kp.alloc _ _) | with_reducible exact ((K4.out.trans (Kp.alloc _ _)).trans (Kp.alloc _ _)).trans (Kp.alloc _ _) | with_reducible exact K4.out.trans (Kp.drew _) | with_reducible exact K4.out.trans (Kp.drewN _ _))).trans kk)
  have G3_5 := Lib.hid (G3_4.out.trans ((show Kp w4 _ from (by first | with_reducible exact Kp.refl _ | with_reducible exact Kp.alloc _ _ | with_reducible exact (Kp.alloc _ _).trans (Kp.alloc _ _) | with_reducible exact ((Kp.alloc _ _).trans (Kp.alloc _ _)).trans (Kp.alloc _ _) | with_reducible exact Kp.drew _ | with_reducible exact Kp.drewN _ _)).trans kk))
  have G4_5 := Lib.hid (G4_4.out.trans ((show Kp w4 _ from (by first | with_reducible exact Kp.refl _ | with_reducible exact Kp.alloc _ _ | with_reducible exact (Kp.alloc _ _).trans (Kp.alloc _ _) | with_reducible exact ((Kp.alloc _ _).trans (Kp.alloc _ _)).trans (Kp.alloc _ _) | with_reducible exact Kp.drew _ | with_reducible exact Kp.drewN _ _)).trans kk))
  clear kk
  clear c0 c1 c2 c3
  obtain ⟨c0, c1, c2, c3⟩ := HB.out w5 K5.out
  go_wp2
  go_ret
  exact ⟨rfl, K00.out.trans K5.out⟩
set_option maxHeartbeats 16000000 in
set_option maxRecDepth 100000 in
theorem near_hi (p : PT) (i : Int) (w : World) (hp1 : -9223372036854775808 ≤ p.k) (hp2 : p.k ≤ 9223372036854775807) (hi1 : -9223372036854775808 ≤ i) (hi2 : i ≤ 9223372036854775807) (T : Tabs8 w) (hs : shortP p = true) (he : setE p = 0) (hf : nearE p = 0) (hN : nearS p = growR p) (hi : 0 ≤ i ∧ cnt p.k ≤ i) :
    Calls Tryd.prog 5 #[ptV p, .int .i64 i] w fun e w' => e = .returned (.bool true) ∧ Kp w w' := by
  have AW := Lib.hid (fun w1 (kk : Kp w w1) => awake08 w1 (T.kp kk))
  have SH := Lib.hid (fun w1 (kk : Kp w w1) => short_any p w1)
  rw [hs] at SH
  have ST := fun w1 (kk : Kp w w1) => pset_any p w1 (T.kp kk)
  have NR := fun w1 (kk : Kp w w1) => pnear_any p w1 (T.kp kk)
  rw [he] at ST
  rw [hf, hN] at NR
  have STH := Lib.hid ST
  have NRH := Lib.hid NR
  have CUc := Lib.hid (fun w1 (kk : Kp w w1) => countC p.k w1 (T.kp kk).1)
  have GL := growR_len p
  have GS := growR_sane p
  have SL := setS_len p
  have SI := setS_inn he
  have CHN := fun ad c w1 (h : RunsAt w1 (.slice ad (growR p).length c) (growR p)) => has_any ad c (growR p) i w1 h (sane_i64 GS) (by omega) hi1 hi2
  have CHS := fun ad c w1 (h : RunsAt w1 (.slice ad (setS p).length c) (setS p)) => has_any ad c (setS p) i w1 h (sane_i64 SI.1) (by omega) hi1 hi2
  have CSn := Lib.hid (fun v w1 (h : RunsAt w1 v (growR p)) => sane_yes v (growR p) w1 h GS)
  have ck := cnt_bd p.k
  have rb := radV_bd p.k
  rw [growR_out (.inr hi.2)] at CHN
  have g1 : decide (i < 0) = false := decide_eq_false (by omega)
  have g2 : decide (cnt p.k ≤ i) = true := decide_eq_true hi.2
  have g3 : decide (i ≥ cnt p.k) = true := decide_eq_true hi.2
  have CHNH := Lib.hid CHN
  generalize cnt p.k = cu at *
  generalize growR p = G at *
  generalize setS p = S at *
  clear hs he hf hN T ST NR GL GS SL SI CHN CHS hi
  obtain ⟨kp, yp, mp, dp⟩ := p
  unfold ptV at *
  simp only at *
  obtain ⟨W0, hW⟩ : ∃ W0, W0 = w.alloc (.cells #[.int .i64 kp, .string yp, .string mp, .string dp] 23) := ⟨_, rfl⟩
  have K00 := Lib.hid (show Kp w W0 by rw [hW]; exact Kp.alloc _ _)
  have HB := Lib.hid (fun w1 (k : Kp W0 w1) => show w1.cell? ⟨w.heap.size, 0, none⟩ = some (.int .i64 kp) ∧ w1.cell? ⟨w.heap.size, 1, none⟩ = some (.string yp) ∧ w1.cell? ⟨w.heap.size, 2, none⟩ = some (.string mp) ∧ w1.cell? ⟨w.heap.size, 3, none⟩ = some (.string dp) from ⟨cell_up k (show W0.cell? ⟨w.heap.size, 0, none⟩ = some (.int .i64 kp) by rw [hW]; simp), cell_up k (show W0.cell? ⟨w.heap.size, 1, none⟩ = some (.string yp) by rw [hW]; simp), cell_up k (show W0.cell? ⟨w.heap.size, 2, none⟩ = some (.string mp) by rw [hW]; simp), cell_up k (show W0.cell? ⟨w.heap.size, 3, none⟩ = some (.string dp) by rw [hW]; simp)⟩)
  obtain ⟨c0, c1, c2, c3⟩ := HB.out W0 (Kp.refl _)
  have K0 := Lib.hid (Kp.refl W0)
  have HW := Lib.hid hW
  clear hW
  go_enter Tryd.func5, Tryd.ntmps5
  go_wp2_with fail
  rw [← HW.out]
  refine (AW.out _ (K00.out.trans (by first | with_reducible exact K0.out | with_reducible exact K0.out.trans (Kp.alloc _ _) | with_reducible exact (K0.out.trans (Kp.alloc _ _)).trans (Kp.alloc _ _) | with_reducible exact ((K0.out.trans (Kp.alloc _ _)).trans (Kp.alloc _ _)).trans (Kp.alloc _ _) | with_reducible exact K0.out.trans (Kp.drew _) | with_reducible exact K0.out.trans (Kp.drewN _ _)))).mono ?_
  rintro e w1 ⟨rfl, kk⟩
  have K1 := Lib.hid ((show Kp W0 _ from (by first | with_reducible exact K0.out | with_reducible exact K0.out.trans (Kp.alloc _ _) | with_reducible exact (K0.out.trans (Kp.alloc _ _)).trans (Kp.alloc _ _) | with_reducible exact ((K0.out.trans (Kp.alloc _ _)).trans (Kp.alloc _ _)).trans (Kp.alloc _ _) | with_reducible exact K0.out.trans (Kp.drew _) | with_reducible exact K0.out.trans (Kp.drewN _ _))).trans kk)
  clear kk
  clear c0 c1 c2 c3
  obtain ⟨c0, c1, c2, c3⟩ := HB.out w1 K1.out
  go_wp2_with fail
  refine (SH.out _ (K00.out.trans (by first | with_reducible exact K1.out | with_reducible exact K1.out.trans (Kp.alloc _ _) | with_reducible exact (K1.out.trans (Kp.alloc _ _)).trans (Kp.alloc _ _) | with_reducible exact ((K1.out.trans (Kp.alloc _ _)).trans (Kp.alloc _ _)).trans (Kp.alloc _ _) | with_reducible exact K1.out.trans (Kp.drew _) | with_reducible exact K1.out.trans (Kp.drewN _ _)))).mono ?_
  rintro e w2 ⟨rfl, kk⟩
  have K2 := Lib.hid ((show Kp W0 _ from (by first | with_reducible exact K1.out | with_reducible exact K1.out.trans (Kp.alloc _ _) | with_reducible exact (K1.out.trans (Kp.alloc _ _)).trans (Kp.alloc _ _) | with_reducible exact ((K1.out.trans (Kp.alloc _ _)).trans (Kp.alloc _ _)).trans (Kp.alloc _ _) | with_reducible exact K1.out.trans (Kp.drew _) | with_reducible exact K1.out.trans (Kp.drewN _ _))).trans kk)
  clear kk
  clear c0 c1 c2 c3
  obtain ⟨c0, c1, c2, c3⟩ := HB.out w2 K2.out
  go_wp2_with fail
  refine (STH.out _ (K00.out.trans (by first | with_reducible exact K2.out | with_reducible exact K2.out.trans (Kp.alloc _ _) | with_reducible exact (K2.out.trans (Kp.alloc _ _)).trans (Kp.alloc _ _) | with_reducible exact ((K2.out.trans (Kp.alloc _ _)).trans (Kp.alloc _ _)).trans (Kp.alloc _ _) | with_reducible exact K2.out.trans (Kp.drew _) | with_reducible exact K2.out.trans (Kp.drewN _ _)))).mono ?_
  rintro e w3 ⟨v3, rfl, own3, kk⟩
  have K3 := Lib.hid ((show Kp W0 _ from (by first | with_reducible exact K2.out | with_reducible exact K2.out.trans (Kp.alloc _ _) | with_reducible exact (K2.out.trans (Kp.alloc _ _)).trans (Kp.alloc _ _) | with_reducible exact ((K2.out.trans (Kp.alloc _ _)).trans (Kp.alloc _ _)).trans (Kp.alloc _ _) | with_reducible exact K2.out.trans (Kp.drew _) | with_reducible exact K2.out.trans (Kp.drewN _ _))).trans kk)
  have RS := Lib.hid (fun w1 (q : Kp w3 w1) => (runsAt_own own3).kp q)
  obtain ⟨aS, cS, rfl⟩ := own_slice own3
  clear own3
  clear kk
  clear c0 c1 c2 c3
  obtain ⟨c0, c1, c2, c3⟩ := HB.out w3 K3.out
  have G3_3 := Lib.hid (Kp.refl w3)
  go_wp2_with fail
  refine (NRH.out _ (K00.out.trans (by first | with_reducible exact K3.out | with_reducible exact K3.out.trans (Kp.alloc _ _) | with_reducible exact (K3.out.trans (Kp.alloc _ _)).trans (Kp.alloc _ _) | with_reducible exact ((K3.out.trans (Kp.alloc _ _)).trans (Kp.alloc _ _)).trans (Kp.alloc _ _) | with_reducible exact K3.out.trans (Kp.drew _) | with_reducible exact K3.out.trans (Kp.drewN _ _)))).mono ?_
  rintro e w4 ⟨v4, rfl, own4, kk⟩
  have K4 := Lib.hid ((show Kp W0 _ from (by first | with_reducible exact K3.out | with_reducible exact K3.out.trans (Kp.alloc _ _) | with_reducible exact (K3.out.trans (Kp.alloc _ _)).trans (Kp.alloc _ _) | with_reducible exact ((K3.out.trans (Kp.alloc _ _)).trans (Kp.alloc _ _)).trans (Kp.alloc _ _) | with_reducible exact K3.out.trans (Kp.drew _) | with_reducible exact K3.out.trans (Kp.drewN _ _))).trans kk)
  have G3_4 := Lib.hid (G3_3.out.trans ((show Kp w3 _ from (by first | with_reducible exact Kp.refl _ | with_reducible exact Kp.alloc _ _ | with_reducible exact (Kp.alloc _ _).trans (Kp.alloc _ _) | with_reducible exact ((Kp.alloc _ _).trans (Kp.alloc _ _)).trans (Kp.alloc _ _) | with_reducible exact Kp.drew _ | with_reducible exact Kp.drewN _ _)).trans kk))
  have RN := Lib.hid (fun w1 (q : Kp w4 w1) => (runsAt_own own4).kp q)
  obtain ⟨aN, cN, rfl⟩ := own_slice own4
  clear own4
  clear kk
  clear c0 c1 c2 c3
  obtain ⟨c0, c1, c2, c3⟩ := HB.out w4 K4.out
  have G4_4 := Lib.hid (Kp.refl w4)
  go_wp2_with fail
  refine (CUc.out _ (K00.out.trans (by first | with_reducible exact K4.out | with_reducible exact K4.out.trans (Kp.alloc _ _) | with_reducible exact (K4.out.trans (Kp.alloc _ _)).trans (Kp.alloc _ _) | with_reducible exact ((K4.out.trans (Kp.alloc _ _)).trans (Kp.alloc _ _)).trans (Kp.alloc _ _) | with_reducible exact K4.out.trans (Kp.drew _) | with_reducible exact K4.out.trans (Kp.drewN _ _)))).mono ?_
  rintro e w5 ⟨rfl, kk⟩
  have K5 := Lib.hid ((show Kp W0 _ from (by first | with_reducible exact K4.out | with_reducible exact K4.out.trans (Kp.alloc _ _) | with_reducible exact (K4.out.trans (Kp.alloc _ _)).trans (Kp.alloc _ _) | with_reducible exact ((K4.out.trans (Kp.alloc _ _)).trans (Kp.alloc _ _)).trans (Kp.alloc _ _) | with_reducible exact K4.out.trans (Kp.drew _) | with_reducible exact K4.out.trans (Kp.drewN _ _))).trans kk)
  have G3_5 := Lib.hid (G3_4.out.trans ((show Kp w4 _ from (by first | with_reducible exact Kp.refl _ | with_reducible exact Kp.alloc _ _ | with_reducible exact (Kp.alloc _ _).trans (Kp.alloc _ _) | with_reducible exact ((Kp.alloc _ _).trans (Kp.alloc _ _)).trans (Kp.alloc _ _) | with_reducible exact Kp.drew _ | with_reducible exact Kp.drewN _ _)).trans kk))
  have G4_5 := Lib.hid (G4_4.out.trans ((show Kp w4 _ from (by first | with_reducible exact Kp.refl _ | with_reducible exact Kp.alloc _ _ | with_reducible exact (Kp.alloc _ _).trans (Kp.alloc _ _) | with_reducible exact ((Kp.alloc _ _).trans (Kp.alloc _ _)).trans (Kp.alloc _ _) | with_reducible exact Kp.drew _ | with_reducible exact Kp.drewN _ _)).trans kk))
  clear kk
  clear c0 c1 c2 c3
  obtain ⟨c0, c1, c2, c3⟩ := HB.out w5 K5.out
  go_wp2_with fail
  refine (CHNH.out _ _ _ (RN.out _ (G4_5.out.trans (by first | with_reducible exact Kp.refl _ | with_reducible exact Kp.alloc _ _ | with_reducible exact (Kp.alloc _ _).trans (Kp.alloc _ _) | with_reducible exact ((Kp.alloc _ _).trans (Kp.alloc _ _)).trans (Kp.alloc _ _) | with_reducible exact Kp.drew _ | with_reducible exact Kp.drewN _ _)))).mono ?_
  rintro e w6 ⟨rfl, kk⟩
  have K6 := Lib.hid ((show Kp W0 _ from (by first | with_reducible exact K5.out | with_reducible exact K5.out.trans (Kp.alloc _ _) | with_reducible exact (K5.out.trans (Kp.alloc _ _)).trans (Kp.alloc _ _) | with_reducible exact ((K5.out.trans (Kp.alloc _ _)).trans (Kp.alloc _ _)).trans (Kp.alloc _ _) | with_reducible exact K5.out.trans (Kp.drew _) | with_reducible exact K5.out.trans (Kp.drewN _ _))).trans kk)
  have G3_6 := Lib.hid (G3_5.out.trans ((show Kp w5 _ from (by first | with_reducible exact Kp.refl _ | with_reducible exact Kp.alloc _ _ | with_reducible exact (Kp.alloc _ _).trans (Kp.alloc _ _) | with_reducible exact ((Kp.alloc _ _).trans (Kp.alloc _ _)).trans (Kp.alloc _ _) | with_reducible exact Kp.drew _ | with_reducible exact Kp.drewN _ _)).trans kk))
  have G4_6 := Lib.hid (G4_5.out.trans ((show Kp w5 _ from (by first | with_reducible exact Kp.refl _ | with_reducible exact Kp.alloc _ _ | with_reducible exact (Kp.alloc _ _).trans (Kp.alloc _ _) | with_reducible exact ((Kp.alloc _ _).trans (Kp.alloc _ _)).trans (Kp.alloc _ _) | with_reducible exact Kp.drew _ | with_reducible exact Kp.drewN _ _)).trans kk))
  clear kk
  clear c0 c1 c2 c3
  obtain ⟨c0, c1, c2, c3⟩ := HB.out w6 K6.out
  go_wp2
  go_ret
  exact ⟨rfl, K00.out.trans K6.out⟩
set_option maxHeartbeats 16000000 in
set_option maxRecDepth 100000 in
theorem near_in_no (p : PT) (i : Int) (w : World) (hp1 : -9223372036854775808 ≤ p.k) (hp2 : p.k ≤ 9223372036854775807) (hi1 : -9223372036854775808 ≤ i) (hi2 : i ≤ 9223372036854775807) (T : Tabs8 w) (hs : shortP p = true) (he : setE p = 0) (hf : nearE p = 0) (hN : nearS p = growR p) (hi : 0 ≤ i ∧ i < cnt p.k) (hok : (nxt (nf (setS p)) (i - radV p.k)).2 = false) :
    Calls Tryd.prog 5 #[ptV p, .int .i64 i] w fun e w' => e = .returned (.bool true) ∧ Kp w w' := by
  have AW := Lib.hid (fun w1 (kk : Kp w w1) => awake08 w1 (T.kp kk))
  have SH := Lib.hid (fun w1 (kk : Kp w w1) => short_any p w1)
  rw [hs] at SH
  have ST := fun w1 (kk : Kp w w1) => pset_any p w1 (T.kp kk)
  have NR := fun w1 (kk : Kp w w1) => pnear_any p w1 (T.kp kk)
  rw [he] at ST
  rw [hf, hN] at NR
  have STH := Lib.hid ST
  have NRH := Lib.hid NR
  have CUc := Lib.hid (fun w1 (kk : Kp w w1) => countC p.k w1 (T.kp kk).1)
  have GL := growR_len p
  have GS := growR_sane p
  have SL := setS_len p
  have SI := setS_inn he
  have CHN := fun ad c w1 (h : RunsAt w1 (.slice ad (growR p).length c) (growR p)) => has_any ad c (growR p) i w1 h (sane_i64 GS) (by omega) hi1 hi2
  have CHS := fun ad c w1 (h : RunsAt w1 (.slice ad (setS p).length c) (setS p)) => has_any ad c (setS p) i w1 h (sane_i64 SI.1) (by omega) hi1 hi2
  have CSn := Lib.hid (fun v w1 (h : RunsAt w1 v (growR p)) => sane_yes v (growR p) w1 h GS)
  have ck := cnt_bd p.k
  have rb := radV_bd p.k
  have GH := growR_has he hi.1 hi.2
  have ON := own_near he hi.1 hi.2
  have NB := nxt_bd (l := nf (setS p)) (nf_sane _) (i - radV p.k) (by omega)
  have CNX := fun ad c w1 (h : RunsAt w1 (.slice ad (setS p).length c) (setS p)) => next_of ad (setS p).length c (nf (setS p)) (i - radV p.k) w1 (asS_any _ (setS p) w1 h (sane_i64 SI.1) (by omega)) (nf_sane _) (by have := nf_len (setS p); omega) (by omega) (by omega)
  have CRD := Lib.hid (fun w1 (kk : Kp w w1) => radius_any p.k w1 (T.kp kk))
  have g1 : decide (i < 0) = false := decide_eq_false (by omega)
  have g2 : decide (cnt p.k ≤ i) = false := decide_eq_false (by omega)
  have g3 : decide (i ≥ cnt p.k) = false := decide_eq_false (by omega)
  generalize hasB (nf (growR p)) i = hn at *
  generalize hasB (nf (setS p)) i = hh at *
  generalize nxt (nf (setS p)) (i - radV p.k) = nx at *
  obtain ⟨na, ok⟩ := nx
  simp only at GH NB hok CNX
  subst hok
  rw [Bool.false_and] at GH
  subst GH
  have hz : hh = false := by
    cases hh with
    | false => rfl
    | true => exact absurd (ON rfl) (by decide)
  subst hz
  have CHNH := Lib.hid CHN
  have CHSH := Lib.hid CHS
  have CNXH := Lib.hid CNX
  generalize cnt p.k = cu at *
  generalize radV p.k = rk at *
  generalize growR p = G at *
  generalize setS p = S at *
  obtain ⟨hi3, hi4⟩ := hi
  clear hs he hf hN T ST NR GL GS SL SI CHN CHS CNX ON
  obtain ⟨kp, yp, mp, dp⟩ := p
  unfold ptV at *
  simp only at *
  obtain ⟨W0, hW⟩ : ∃ W0, W0 = w.alloc (.cells #[.int .i64 kp, .string yp, .string mp, .string dp] 23) := ⟨_, rfl⟩
  have K00 := Lib.hid (show Kp w W0 by rw [hW]; exact Kp.alloc _ _)
  have HB := Lib.hid (fun w1 (k : Kp W0 w1) => show w1.cell? ⟨w.heap.size, 0, none⟩ = some (.int .i64 kp) ∧ w1.cell? ⟨w.heap.size, 1, none⟩ = some (.string yp) ∧ w1.cell? ⟨w.heap.size, 2, none⟩ = some (.string mp) ∧ w1.cell? ⟨w.heap.size, 3, none⟩ = some (.string dp) from ⟨cell_up k (show W0.cell? ⟨w.heap.size, 0, none⟩ = some (.int .i64 kp) by rw [hW]; simp), cell_up k (show W0.cell? ⟨w.heap.size, 1, none⟩ = some (.string yp) by rw [hW]; simp), cell_up k (show W0.cell? ⟨w.heap.size, 2, none⟩ = some (.string mp) by rw [hW]; simp), cell_up k (show W0.cell? ⟨w.heap.size, 3, none⟩ = some (.string dp) by rw [hW]; simp)⟩)
  obtain ⟨c0, c1, c2, c3⟩ := HB.out W0 (Kp.refl _)
  have K0 := Lib.hid (Kp.refl W0)
  have HW := Lib.hid hW
  clear hW
  go_enter Tryd.func5, Tryd.ntmps5
  go_wp2_with fail
  rw [← HW.out]
  refine (AW.out _ (K00.out.trans (by first | with_reducible exact K0.out | with_reducible exact K0.out.trans (Kp.alloc _ _) | with_reducible exact (K0.out.trans (Kp.alloc _ _)).trans (Kp.alloc _ _) | with_reducible exact ((K0.out.trans (Kp.alloc _ _)).trans (Kp.alloc _ _)).trans (Kp.alloc _ _) | with_reducible exact K0.out.trans (Kp.drew _) | with_reducible exact K0.out.trans (Kp.drewN _ _)))).mono ?_
  rintro e w1 ⟨rfl, kk⟩
  have K1 := Lib.hid ((show Kp W0 _ from (by first | with_reducible exact K0.out | with_reducible exact K0.out.trans (Kp.alloc _ _) | with_reducible exact (K0.out.trans (Kp.alloc _ _)).trans (Kp.alloc _ _) | with_reducible exact ((K0.out.trans (Kp.alloc _ _)).trans (Kp.alloc _ _)).trans (Kp.alloc _ _) | with_reducible exact K0.out.trans (Kp.drew _) | with_reducible exact K0.out.trans (Kp.drewN _ _))).trans kk)
  clear kk
  clear c0 c1 c2 c3
  obtain ⟨c0, c1, c2, c3⟩ := HB.out w1 K1.out
  go_wp2_with fail
  refine (SH.out _ (K00.out.trans (by first | with_reducible exact K1.out | with_reducible exact K1.out.trans (Kp.alloc _ _) | with_reducible exact (K1.out.trans (Kp.alloc _ _)).trans (Kp.alloc _ _) | with_reducible exact ((K1.out.trans (Kp.alloc _ _)).trans (Kp.alloc _ _)).trans (Kp.alloc _ _) | with_reducible exact K1.out.trans (Kp.drew _) | with_reducible exact K1.out.trans (Kp.drewN _ _)))).mono ?_
  rintro e w2 ⟨rfl, kk⟩
  have K2 := Lib.hid ((show Kp W0 _ from (by first | with_reducible exact K1.out | with_reducible exact K1.out.trans (Kp.alloc _ _) | with_reducible exact (K1.out.trans (Kp.alloc _ _)).trans (Kp.alloc _ _) | with_reducible exact ((K1.out.trans (Kp.alloc _ _)).trans (Kp.alloc _ _)).trans (Kp.alloc _ _) | with_reducible exact K1.out.trans (Kp.drew _) | with_reducible exact K1.out.trans (Kp.drewN _ _))).trans kk)
  clear kk
  clear c0 c1 c2 c3
  obtain ⟨c0, c1, c2, c3⟩ := HB.out w2 K2.out
  go_wp2_with fail
  refine (STH.out _ (K00.out.trans (by first | with_reducible exact K2.out | with_reducible exact K2.out.trans (Kp.alloc _ _) | with_reducible exact (K2.out.trans (Kp.alloc _ _)).trans (Kp.alloc _ _) | with_reducible exact ((K2.out.trans (Kp.alloc _ _)).trans (Kp.alloc _ _)).trans (Kp.alloc _ _) | with_reducible exact K2.out.trans (Kp.drew _) | with_reducible exact K2.out.trans (Kp.drewN _ _)))).mono ?_
  rintro e w3 ⟨v3, rfl, own3, kk⟩
  have K3 := Lib.hid ((show Kp W0 _ from (by first | with_reducible exact K2.out | with_reducible exact K2.out.trans (Kp.alloc _ _) | with_reducible exact (K2.out.trans (Kp.alloc _ _)).trans (Kp.alloc _ _) | with_reducible exact ((K2.out.trans (Kp.alloc _ _)).trans (Kp.alloc _ _)).trans (Kp.alloc _ _) | with_reducible exact K2.out.trans (Kp.drew _) | with_reducible exact K2.out.trans (Kp.drewN _ _))).trans kk)
  have RS := Lib.hid (fun w1 (q : Kp w3 w1) => (runsAt_own own3).kp q)
  obtain ⟨aS, cS, rfl⟩ := own_slice own3
  clear own3
  clear kk
  clear c0 c1 c2 c3
  obtain ⟨c0, c1, c2, c3⟩ := HB.out w3 K3.out
  have G3_3 := Lib.hid (Kp.refl w3)
  go_wp2_with fail
  refine (NRH.out _ (K00.out.trans (by first | with_reducible exact K3.out | with_reducible exact K3.out.trans (Kp.alloc _ _) | with_reducible exact (K3.out.trans (Kp.alloc _ _)).trans (Kp.alloc _ _) | with_reducible exact ((K3.out.trans (Kp.alloc _ _)).trans (Kp.alloc _ _)).trans (Kp.alloc _ _) | with_reducible exact K3.out.trans (Kp.drew _) | with_reducible exact K3.out.trans (Kp.drewN _ _)))).mono ?_
  rintro e w4 ⟨v4, rfl, own4, kk⟩
  have K4 := Lib.hid ((show Kp W0 _ from (by first | with_reducible exact K3.out | with_reducible exact K3.out.trans (Kp.alloc _ _) | with_reducible exact (K3.out.trans (Kp.alloc _ _)).trans (Kp.alloc _ _) | with_reducible exact ((K3.out.trans (Kp.alloc _ _)).trans (Kp.alloc _ _)).trans (Kp.alloc _ _) | with_reducible exact K3.out.trans (Kp.drew _) | with_reducible exact K3.out.trans (Kp.drewN _ _))).trans kk)
  have G3_4 := Lib.hid (G3_3.out.trans ((show Kp w3 _ from (by first | with_reducible exact Kp.refl _ | with_reducible exact Kp.alloc _ _ | with_reducible exact (Kp.alloc _ _).trans (Kp.alloc _ _) | with_reducible exact ((Kp.alloc _ _).trans (Kp.alloc _ _)).trans (Kp.alloc _ _) | with_reducible exact Kp.drew _ | with_reducible exact Kp.drewN _ _)).trans kk))
  have RN := Lib.hid (fun w1 (q : Kp w4 w1) => (runsAt_own own4).kp q)
  obtain ⟨aN, cN, rfl⟩ := own_slice own4
  clear own4
  clear kk
  clear c0 c1 c2 c3
  obtain ⟨c0, c1, c2, c3⟩ := HB.out w4 K4.out
  have G4_4 := Lib.hid (Kp.refl w4)
  go_wp2_with fail
  refine (CUc.out _ (K00.out.trans (by first | with_reducible exact K4.out | with_reducible exact K4.out.trans (Kp.alloc _ _) | with_reducible exact (K4.out.trans (Kp.alloc _ _)).trans (Kp.alloc _ _) | with_reducible exact ((K4.out.trans (Kp.alloc _ _)).trans (Kp.alloc _ _)).trans (Kp.alloc _ _) | with_reducible exact K4.out.trans (Kp.drew _) | with_reducible exact K4.out.trans (Kp.drewN _ _)))).mono ?_
  rintro e w5 ⟨rfl, kk⟩
  have K5 := Lib.hid ((show Kp W0 _ from (by first | with_reducible exact K4.out | with_reducible exact K4.out.trans (Kp.alloc _ _) | with_reducible exact (K4.out.trans (Kp.alloc _ _)).trans (Kp.alloc _ _) | with_reducible exact ((K4.out.trans (Kp.alloc _ _)).trans (Kp.alloc _ _)).trans (Kp.alloc _ _) | with_reducible exact K4.out.trans (Kp.drew _) | with_reducible exact K4.out.trans (Kp.drewN _ _))).trans kk)
  have G3_5 := Lib.hid (G3_4.out.trans ((show Kp w4 _ from (by first | with_reducible exact Kp.refl _ | with_reducible exact Kp.alloc _ _ | with_reducible exact (Kp.alloc _ _).trans (Kp.alloc _ _) | with_reducible exact ((Kp.alloc _ _).trans (Kp.alloc _ _)).trans (Kp.alloc _ _) | with_reducible exact Kp.drew _ | with_reducible exact Kp.drewN _ _)).trans kk))
  have G4_5 := Lib.hid (G4_4.out.trans ((show Kp w4 _ from (by first | with_reducible exact Kp.refl _ | with_reducible exact Kp.alloc _ _ | with_reducible exact (Kp.alloc _ _).trans (Kp.alloc _ _) | with_reducible exact ((Kp.alloc _ _).trans (Kp.alloc _ _)).trans (Kp.alloc _ _) | with_reducible exact Kp.drew _ | with_reducible exact Kp.drewN _ _)).trans kk))
  clear kk
  clear c0 c1 c2 c3
  obtain ⟨c0, c1, c2, c3⟩ := HB.out w5 K5.out
  go_wp2_with fail
  refine (CRD.out _ (K00.out.trans (by first | with_reducible exact K5.out | with_reducible exact K5.out.trans (Kp.alloc _ _) | with_reducible exact (K5.out.trans (Kp.alloc _ _)).trans (Kp.alloc _ _) | with_reducible exact ((K5.out.trans (Kp.alloc _ _)).trans (Kp.alloc _ _)).trans (Kp.alloc _ _) | with_reducible exact K5.out.trans (Kp.drew _) | with_reducible exact K5.out.trans (Kp.drewN _ _)))).mono ?_
  rintro e w6 ⟨rfl, hq6⟩
  have kk : Kp w5 w6 := by rw [← hq6]; exact Kp.refl _
  clear hq6
  have K6 := Lib.hid ((show Kp W0 _ from (by first | with_reducible exact K5.out | with_reducible exact K5.out.trans (Kp.alloc _ _) | with_reducible exact (K5.out.trans (Kp.alloc _ _)).trans (Kp.alloc _ _) | with_reducible exact ((K5.out.trans (Kp.alloc _ _)).trans (Kp.alloc _ _)).trans (Kp.alloc _ _) | with_reducible exact K5.out.trans (Kp.drew _) | with_reducible exact K5.out.trans (Kp.drewN _ _))).trans kk)
  have G3_6 := Lib.hid (G3_5.out.trans ((show Kp w5 _ from (by first | with_reducible exact Kp.refl _ | with_reducible exact Kp.alloc _ _ | with_reducible exact (Kp.alloc _ _).trans (Kp.alloc _ _) | with_reducible exact ((Kp.alloc _ _).trans (Kp.alloc _ _)).trans (Kp.alloc _ _) | with_reducible exact Kp.drew _ | with_reducible exact Kp.drewN _ _)).trans kk))
  have G4_6 := Lib.hid (G4_5.out.trans ((show Kp w5 _ from (by first | with_reducible exact Kp.refl _ | with_reducible exact Kp.alloc _ _ | with_reducible exact (Kp.alloc _ _).trans (Kp.alloc _ _) | with_reducible exact ((Kp.alloc _ _).trans (Kp.alloc _ _)).trans (Kp.alloc _ _) | with_reducible exact Kp.drew _ | with_reducible exact Kp.drewN _ _)).trans kk))
  clear kk
  clear c0 c1 c2 c3
  obtain ⟨c0, c1, c2, c3⟩ := HB.out w6 K6.out
  go_wp2_with fail
  refine (CNXH.out _ _ _ (RS.out _ (G3_6.out.trans (by first | with_reducible exact Kp.refl _ | with_reducible exact Kp.alloc _ _ | with_reducible exact (Kp.alloc _ _).trans (Kp.alloc _ _) | with_reducible exact ((Kp.alloc _ _).trans (Kp.alloc _ _)).trans (Kp.alloc _ _) | with_reducible exact Kp.drew _ | with_reducible exact Kp.drewN _ _)))).mono ?_
  rintro e w7 ⟨rfl, kk⟩
  have K7 := Lib.hid ((show Kp W0 _ from (by first | with_reducible exact K6.out | with_reducible exact K6.out.trans (Kp.alloc _ _) | with_reducible exact (K6.out.trans (Kp.alloc _ _)).trans (Kp.alloc _ _) | with_reducible exact ((K6.out.trans (Kp.alloc _ _)).trans (Kp.alloc _ _)).trans (Kp.alloc _ _) | with_reducible exact K6.out.trans (Kp.drew _) | with_reducible exact K6.out.trans (Kp.drewN _ _))).trans kk)
  have G3_7 := Lib.hid (G3_6.out.trans ((show Kp w6 _ from (by first | with_reducible exact Kp.refl _ | with_reducible exact Kp.alloc _ _ | with_reducible exact (Kp.alloc _ _).trans (Kp.alloc _ _) | with_reducible exact ((Kp.alloc _ _).trans (Kp.alloc _ _)).trans (Kp.alloc _ _) | with_reducible exact Kp.drew _ | with_reducible exact Kp.drewN _ _)).trans kk))
  have G4_7 := Lib.hid (G4_6.out.trans ((show Kp w6 _ from (by first | with_reducible exact Kp.refl _ | with_reducible exact Kp.alloc _ _ | with_reducible exact (Kp.alloc _ _).trans (Kp.alloc _ _) | with_reducible exact ((Kp.alloc _ _).trans (Kp.alloc _ _)).trans (Kp.alloc _ _) | with_reducible exact Kp.drew _ | with_reducible exact Kp.drewN _ _)).trans kk))
  clear kk
  clear c0 c1 c2 c3
  obtain ⟨c0, c1, c2, c3⟩ := HB.out w7 K7.out
  go_wp2_with fail
  refine (CSn.out _ _ (RN.out _ (G4_7.out.trans (by first | with_reducible exact Kp.refl _ | with_reducible exact Kp.alloc _ _ | with_reducible exact (Kp.alloc _ _).trans (Kp.alloc _ _) | with_reducible exact ((Kp.alloc _ _).trans (Kp.alloc _ _)).trans (Kp.alloc _ _) | with_reducible exact Kp.drew _ | with_reducible exact Kp.drewN _ _)))).mono ?_
  rintro e w8 ⟨rfl, kk⟩
  have K8 := Lib.hid ((show Kp W0 _ from (by first | with_reducible exact K7.out | with_reducible exact K7.out.trans (Kp.alloc _ _) | with_reducible exact (K7.out.trans (Kp.alloc _ _)).trans (Kp.alloc _ _) | with_reducible exact ((K7.out.trans (Kp.alloc _ _)).trans (Kp.alloc _ _)).trans (Kp.alloc _ _) | with_reducible exact K7.out.trans (Kp.drew _) | with_reducible exact K7.out.trans (Kp.drewN _ _))).trans kk)
  have G3_8 := Lib.hid (G3_7.out.trans ((show Kp w7 _ from (by first | with_reducible exact Kp.refl _ | with_reducible exact Kp.alloc _ _ | with_reducible exact (Kp.alloc _ _).trans (Kp.alloc _ _) | with_reducible exact ((Kp.alloc _ _).trans (Kp.alloc _ _)).trans (Kp.alloc _ _) | with_reducible exact Kp.drew _ | with_reducible exact Kp.drewN _ _)).trans kk))
  have G4_8 := Lib.hid (G4_7.out.trans ((show Kp w7 _ from (by first | with_reducible exact Kp.refl _ | with_reducible exact Kp.alloc _ _ | with_reducible exact (Kp.alloc _ _).trans (Kp.alloc _ _) | with_reducible exact ((Kp.alloc _ _).trans (Kp.alloc _ _)).trans (Kp.alloc _ _) | with_reducible exact Kp.drew _ | with_reducible exact Kp.drewN _ _)).trans kk))
  clear kk
  clear c0 c1 c2 c3
  obtain ⟨c0, c1, c2, c3⟩ := HB.out w8 K8.out
  go_wp2_with fail
  refine (CHNH.out _ _ _ (RN.out _ (G4_8.out.trans (by first | with_reducible exact Kp.refl _ | with_reducible exact Kp.alloc _ _ | with_reducible exact (Kp.alloc _ _).trans (Kp.alloc _ _) | with_reducible exact ((Kp.alloc _ _).trans (Kp.alloc _ _)).trans (Kp.alloc _ _) | with_reducible exact Kp.drew _ | with_reducible exact Kp.drewN _ _)))).mono ?_
  rintro e w9 ⟨rfl, kk⟩
  have K9 := Lib.hid ((show Kp W0 _ from (by first | with_reducible exact K8.out | with_reducible exact K8.out.trans (Kp.alloc _ _) | with_reducible exact (K8.out.trans (Kp.alloc _ _)).trans (Kp.alloc _ _) | with_reducible exact ((K8.out.trans (Kp.alloc _ _)).trans (Kp.alloc _ _)).trans (Kp.alloc _ _) | with_reducible exact K8.out.trans (Kp.drew _) | with_reducible exact K8.out.trans (Kp.drewN _ _))).trans kk)
  have G3_9 := Lib.hid (G3_8.out.trans ((show Kp w8 _ from (by first | with_reducible exact Kp.refl _ | with_reducible exact Kp.alloc _ _ | with_reducible exact (Kp.alloc _ _).trans (Kp.alloc _ _) | with_reducible exact ((Kp.alloc _ _).trans (Kp.alloc _ _)).trans (Kp.alloc _ _) | with_reducible exact Kp.drew _ | with_reducible exact Kp.drewN _ _)).trans kk))
  have G4_9 := Lib.hid (G4_8.out.trans ((show Kp w8 _ from (by first | with_reducible exact Kp.refl _ | with_reducible exact Kp.alloc _ _ | with_reducible exact (Kp.alloc _ _).trans (Kp.alloc _ _) | with_reducible exact ((Kp.alloc _ _).trans (Kp.alloc _ _)).trans (Kp.alloc _ _) | with_reducible exact Kp.drew _ | with_reducible exact Kp.drewN _ _)).trans kk))
  clear kk
  clear c0 c1 c2 c3
  obtain ⟨c0, c1, c2, c3⟩ := HB.out w9 K9.out
  go_wp2_with fail
  refine (CHSH.out _ _ _ (RS.out _ (G3_9.out.trans (by first | with_reducible exact Kp.refl _ | with_reducible exact Kp.alloc _ _ | with_reducible exact (Kp.alloc _ _).trans (Kp.alloc _ _) | with_reducible exact ((Kp.alloc _ _).trans (Kp.alloc _ _)).trans (Kp.alloc _ _) | with_reducible exact Kp.drew _ | with_reducible exact Kp.drewN _ _)))).mono ?_
  rintro e w10 ⟨rfl, kk⟩
  have K10 := Lib.hid ((show Kp W0 _ from (by first | with_reducible exact K9.out | with_reducible exact K9.out.trans (Kp.alloc _ _) | with_reducible exact (K9.out.trans (Kp.alloc _ _)).trans (Kp.alloc _ _) | with_reducible exact ((K9.out.trans (Kp.alloc _ _)).trans (Kp.alloc _ _)).trans (Kp.alloc _ _) | with_reducible exact K9.out.trans (Kp.drew _) | with_reducible exact K9.out.trans (Kp.drewN _ _))).trans kk)
  have G3_10 := Lib.hid (G3_9.out.trans ((show Kp w9 _ from (by first | with_reducible exact Kp.refl _ | with_reducible exact Kp.alloc _ _ | with_reducible exact (Kp.alloc _ _).trans (Kp.alloc _ _) | with_reducible exact ((Kp.alloc _ _).trans (Kp.alloc _ _)).trans (Kp.alloc _ _) | with_reducible exact Kp.drew _ | with_reducible exact Kp.drewN _ _)).trans kk))
  have G4_10 := Lib.hid (G4_9.out.trans ((show Kp w9 _ from (by first | with_reducible exact Kp.refl _ | with_reducible exact Kp.alloc _ _ | with_reducible exact (Kp.alloc _ _).trans (Kp.alloc _ _) | with_reducible exact ((Kp.alloc _ _).trans (Kp.alloc _ _)).trans (Kp.alloc _ _) | with_reducible exact Kp.drew _ | with_reducible exact Kp.drewN _ _)).trans kk))
  clear kk
  clear c0 c1 c2 c3
  obtain ⟨c0, c1, c2, c3⟩ := HB.out w10 K10.out
  go_wp2
  go_ret
  exact ⟨rfl, K00.out.trans K10.out⟩
set_option maxHeartbeats 16000000 in
set_option maxRecDepth 100000 in
theorem near_in_far (p : PT) (i : Int) (w : World) (hp1 : -9223372036854775808 ≤ p.k) (hp2 : p.k ≤ 9223372036854775807) (hi1 : -9223372036854775808 ≤ i) (hi2 : i ≤ 9223372036854775807) (T : Tabs8 w) (hs : shortP p = true) (he : setE p = 0) (hf : nearE p = 0) (hN : nearS p = growR p) (hi : 0 ≤ i ∧ i < cnt p.k) (hok : (nxt (nf (setS p)) (i - radV p.k)).2 = true) (hb : decide ((nxt (nf (setS p)) (i - radV p.k)).1 ≤ i + radV p.k) = false) :
    Calls Tryd.prog 5 #[ptV p, .int .i64 i] w fun e w' => e = .returned (.bool true) ∧ Kp w w' := by
  have AW := Lib.hid (fun w1 (kk : Kp w w1) => awake08 w1 (T.kp kk))
  have SH := Lib.hid (fun w1 (kk : Kp w w1) => short_any p w1)
  rw [hs] at SH
  have ST := fun w1 (kk : Kp w w1) => pset_any p w1 (T.kp kk)
  have NR := fun w1 (kk : Kp w w1) => pnear_any p w1 (T.kp kk)
  rw [he] at ST
  rw [hf, hN] at NR
  have STH := Lib.hid ST
  have NRH := Lib.hid NR
  have CUc := Lib.hid (fun w1 (kk : Kp w w1) => countC p.k w1 (T.kp kk).1)
  have GL := growR_len p
  have GS := growR_sane p
  have SL := setS_len p
  have SI := setS_inn he
  have CHN := fun ad c w1 (h : RunsAt w1 (.slice ad (growR p).length c) (growR p)) => has_any ad c (growR p) i w1 h (sane_i64 GS) (by omega) hi1 hi2
  have CHS := fun ad c w1 (h : RunsAt w1 (.slice ad (setS p).length c) (setS p)) => has_any ad c (setS p) i w1 h (sane_i64 SI.1) (by omega) hi1 hi2
  have CSn := Lib.hid (fun v w1 (h : RunsAt w1 v (growR p)) => sane_yes v (growR p) w1 h GS)
  have ck := cnt_bd p.k
  have rb := radV_bd p.k
  have GH := growR_has he hi.1 hi.2
  have ON := own_near he hi.1 hi.2
  have NB := nxt_bd (l := nf (setS p)) (nf_sane _) (i - radV p.k) (by omega)
  have CNX := fun ad c w1 (h : RunsAt w1 (.slice ad (setS p).length c) (setS p)) => next_of ad (setS p).length c (nf (setS p)) (i - radV p.k) w1 (asS_any _ (setS p) w1 h (sane_i64 SI.1) (by omega)) (nf_sane _) (by have := nf_len (setS p); omega) (by omega) (by omega)
  have CRD := Lib.hid (fun w1 (kk : Kp w w1) => radius_any p.k w1 (T.kp kk))
  have g1 : decide (i < 0) = false := decide_eq_false (by omega)
  have g2 : decide (cnt p.k ≤ i) = false := decide_eq_false (by omega)
  have g3 : decide (i ≥ cnt p.k) = false := decide_eq_false (by omega)
  generalize hasB (nf (growR p)) i = hn at *
  generalize hasB (nf (setS p)) i = hh at *
  generalize nxt (nf (setS p)) (i - radV p.k) = nx at *
  obtain ⟨na, ok⟩ := nx
  simp only at GH NB hok hb CNX
  subst hok
  rw [Bool.true_and, hb] at GH
  subst GH
  have hz : hh = false := by
    cases hh with
    | false => rfl
    | true => exact absurd (ON rfl) (by decide)
  subst hz
  have CHNH := Lib.hid CHN
  have CHSH := Lib.hid CHS
  have CNXH := Lib.hid CNX
  generalize cnt p.k = cu at *
  generalize radV p.k = rk at *
  generalize growR p = G at *
  generalize setS p = S at *
  obtain ⟨hi3, hi4⟩ := hi
  clear hs he hf hN T ST NR GL GS SL SI CHN CHS CNX ON
  obtain ⟨kp, yp, mp, dp⟩ := p
  unfold ptV at *
  simp only at *
  obtain ⟨W0, hW⟩ : ∃ W0, W0 = w.alloc (.cells #[.int .i64 kp, .string yp, .string mp, .string dp] 23) := ⟨_, rfl⟩
  have K00 := Lib.hid (show Kp w W0 by rw [hW]; exact Kp.alloc _ _)
  have HB := Lib.hid (fun w1 (k : Kp W0 w1) => show w1.cell? ⟨w.heap.size, 0, none⟩ = some (.int .i64 kp) ∧ w1.cell? ⟨w.heap.size, 1, none⟩ = some (.string yp) ∧ w1.cell? ⟨w.heap.size, 2, none⟩ = some (.string mp) ∧ w1.cell? ⟨w.heap.size, 3, none⟩ = some (.string dp) from ⟨cell_up k (show W0.cell? ⟨w.heap.size, 0, none⟩ = some (.int .i64 kp) by rw [hW]; simp), cell_up k (show W0.cell? ⟨w.heap.size, 1, none⟩ = some (.string yp) by rw [hW]; simp), cell_up k (show W0.cell? ⟨w.heap.size, 2, none⟩ = some (.string mp) by rw [hW]; simp), cell_up k (show W0.cell? ⟨w.heap.size, 3, none⟩ = some (.string dp) by rw [hW]; simp)⟩)
  obtain ⟨c0, c1, c2, c3⟩ := HB.out W0 (Kp.refl _)
  have K0 := Lib.hid (Kp.refl W0)
  have HW := Lib.hid hW
  clear hW
  go_enter Tryd.func5, Tryd.ntmps5
  go_wp2_with fail
  rw [← HW.out]
  refine (AW.out _ (K00.out.trans (by first | with_reducible exact K0.out | with_reducible exact K0.out.trans (Kp.alloc _ _) | with_reducible exact (K0.out.trans (Kp.alloc _ _)).trans (Kp.alloc _ _) | with_reducible exact ((K0.out.trans (Kp.alloc _ _)).trans (Kp.alloc _ _)).trans (Kp.alloc _ _) | with_reducible exact K0.out.trans (Kp.drew _) | with_reducible exact K0.out.trans (Kp.drewN _ _)))).mono ?_
  rintro e w1 ⟨rfl, kk⟩
  have K1 := Lib.hid ((show Kp W0 _ from (by first | with_reducible exact K0.out | with_reducible exact K0.out.trans (Kp.alloc _ _) | with_reducible exact (K0.out.trans (Kp.alloc _ _)).trans (Kp.alloc _ _) | with_reducible exact ((K0.out.trans (Kp.alloc _ _)).trans (Kp.alloc _ _)).trans (Kp.alloc _ _) | with_reducible exact K0.out.trans (Kp.drew _) | with_reducible exact K0.out.trans (Kp.drewN _ _))).trans kk)
  clear kk
  clear c0 c1 c2 c3
  obtain ⟨c0, c1, c2, c3⟩ := HB.out w1 K1.out
  go_wp2_with fail
  refine (SH.out _ (K00.out.trans (by first | with_reducible exact K1.out | with_reducible exact K1.out.trans (Kp.alloc _ _) | with_reducible exact (K1.out.trans (Kp.alloc _ _)).trans (Kp.alloc _ _) | with_reducible exact ((K1.out.trans (Kp.alloc _ _)).trans (Kp.alloc _ _)).trans (Kp.alloc _ _) | with_reducible exact K1.out.trans (Kp.drew _) | with_reducible exact K1.out.trans (Kp.drewN _ _)))).mono ?_
  rintro e w2 ⟨rfl, kk⟩
  have K2 := Lib.hid ((show Kp W0 _ from (by first | with_reducible exact K1.out | with_reducible exact K1.out.trans (Kp.alloc _ _) | with_reducible exact (K1.out.trans (Kp.alloc _ _)).trans (Kp.alloc _ _) | with_reducible exact ((K1.out.trans (Kp.alloc _ _)).trans (Kp.alloc _ _)).trans (Kp.alloc _ _) | with_reducible exact K1.out.trans (Kp.drew _) | with_reducible exact K1.out.trans (Kp.drewN _ _))).trans kk)
  clear kk
  clear c0 c1 c2 c3
  obtain ⟨c0, c1, c2, c3⟩ := HB.out w2 K2.out
  go_wp2_with fail
  refine (STH.out _ (K00.out.trans (by first | with_reducible exact K2.out | with_reducible exact K2.out.trans (Kp.alloc _ _) | with_reducible exact (K2.out.trans (Kp.alloc _ _)).trans (Kp.alloc _ _) | with_reducible exact ((K2.out.trans (Kp.alloc _ _)).trans (Kp.alloc _ _)).trans (Kp.alloc _ _) | with_reducible exact K2.out.trans (Kp.drew _) | with_reducible exact K2.out.trans (Kp.drewN _ _)))).mono ?_
  rintro e w3 ⟨v3, rfl, own3, kk⟩
  have K3 := Lib.hid ((show Kp W0 _ from (by first | with_reducible exact K2.out | with_reducible exact K2.out.trans (Kp.alloc _ _) | with_reducible exact (K2.out.trans (Kp.alloc _ _)).trans (Kp.alloc _ _) | with_reducible exact ((K2.out.trans (Kp.alloc _ _)).trans (Kp.alloc _ _)).trans (Kp.alloc _ _) | with_reducible exact K2.out.trans (Kp.drew _) | with_reducible exact K2.out.trans (Kp.drewN _ _))).trans kk)
  have RS := Lib.hid (fun w1 (q : Kp w3 w1) => (runsAt_own own3).kp q)
  obtain ⟨aS, cS, rfl⟩ := own_slice own3
  clear own3
  clear kk
  clear c0 c1 c2 c3
  obtain ⟨c0, c1, c2, c3⟩ := HB.out w3 K3.out
  have G3_3 := Lib.hid (Kp.refl w3)
  go_wp2_with fail
  refine (NRH.out _ (K00.out.trans (by first | with_reducible exact K3.out | with_reducible exact K3.out.trans (Kp.alloc _ _) | with_reducible exact (K3.out.trans (Kp.alloc _ _)).trans (Kp.alloc _ _) | with_reducible exact ((K3.out.trans (Kp.alloc _ _)).trans (Kp.alloc _ _)).trans (Kp.alloc _ _) | with_reducible exact K3.out.trans (Kp.drew _) | with_reducible exact K3.out.trans (Kp.drewN _ _)))).mono ?_
  rintro e w4 ⟨v4, rfl, own4, kk⟩
  have K4 := Lib.hid ((show Kp W0 _ from (by first | with_reducible exact K3.out | with_reducible exact K3.out.trans (Kp.alloc _ _) | with_reducible exact (K3.out.trans (Kp.alloc _ _)).trans (Kp.alloc _ _) | with_reducible exact ((K3.out.trans (Kp.alloc _ _)).trans (Kp.alloc _ _)).trans (Kp.alloc _ _) | with_reducible exact K3.out.trans (Kp.drew _) | with_reducible exact K3.out.trans (Kp.drewN _ _))).trans kk)
  have G3_4 := Lib.hid (G3_3.out.trans ((show Kp w3 _ from (by first | with_reducible exact Kp.refl _ | with_reducible exact Kp.alloc _ _ | with_reducible exact (Kp.alloc _ _).trans (Kp.alloc _ _) | with_reducible exact ((Kp.alloc _ _).trans (Kp.alloc _ _)).trans (Kp.alloc _ _) | with_reducible exact Kp.drew _ | with_reducible exact Kp.drewN _ _)).trans kk))
  have RN := Lib.hid (fun w1 (q : Kp w4 w1) => (runsAt_own own4).kp q)
  obtain ⟨aN, cN, rfl⟩ := own_slice own4
  clear own4
  clear kk
  clear c0 c1 c2 c3
  obtain ⟨c0, c1, c2, c3⟩ := HB.out w4 K4.out
  have G4_4 := Lib.hid (Kp.refl w4)
  go_wp2_with fail
  refine (CUc.out _ (K00.out.trans (by first | with_reducible exact K4.out | with_reducible exact K4.out.trans (Kp.alloc _ _) | with_reducible exact (K4.out.trans (Kp.alloc _ _)).trans (Kp.alloc _ _) | with_reducible exact ((K4.out.trans (Kp.alloc _ _)).trans (Kp.alloc _ _)).trans (Kp.alloc _ _) | with_reducible exact K4.out.trans (Kp.drew _) | with_reducible exact K4.out.trans (Kp.drewN _ _)))).mono ?_
  rintro e w5 ⟨rfl, kk⟩
  have K5 := Lib.hid ((show Kp W0 _ from (by first | with_reducible exact K4.out | with_reducible exact K4.out.trans (Kp.alloc _ _) | with_reducible exact (K4.out.trans (Kp.alloc _ _)).trans (Kp.alloc _ _) | with_reducible exact ((K4.out.trans (Kp.alloc _ _)).trans (Kp.alloc _ _)).trans (Kp.alloc _ _) | with_reducible exact K4.out.trans (Kp.drew _) | with_reducible exact K4.out.trans (Kp.drewN _ _))).trans kk)
  have G3_5 := Lib.hid (G3_4.out.trans ((show Kp w4 _ from (by first | with_reducible exact Kp.refl _ | with_reducible exact Kp.alloc _ _ | with_reducible exact (Kp.alloc _ _).trans (Kp.alloc _ _) | with_reducible exact ((Kp.alloc _ _).trans (Kp.alloc _ _)).trans (Kp.alloc _ _) | with_reducible exact Kp.drew _ | with_reducible exact Kp.drewN _ _)).trans kk))
  have G4_5 := Lib.hid (G4_4.out.trans ((show Kp w4 _ from (by first | with_reducible exact Kp.refl _ | with_reducible exact Kp.alloc _ _ | with_reducible exact (Kp.alloc _ _).trans (Kp.alloc _ _) | with_reducible exact ((Kp.alloc _ _).trans (Kp.alloc _ _)).trans (Kp.alloc _ _) | with_reducible exact Kp.drew _ | with_reducible exact Kp.drewN _ _)).trans kk))
  clear kk
  clear c0 c1 c2 c3
  obtain ⟨c0, c1, c2, c3⟩ := HB.out w5 K5.out
  go_wp2_with fail
  refine (CRD.out _ (K00.out.trans (by first | with_reducible exact K5.out | with_reducible exact K5.out.trans (Kp.alloc _ _) | with_reducible exact (K5.out.trans (Kp.alloc _ _)).trans (Kp.alloc _ _) | with_reducible exact ((K5.out.trans (Kp.alloc _ _)).trans (Kp.alloc _ _)).trans (Kp.alloc _ _) | with_reducible exact K5.out.trans (Kp.drew _) | with_reducible exact K5.out.trans (Kp.drewN _ _)))).mono ?_
  rintro e w6 ⟨rfl, hq6⟩
  have kk : Kp w5 w6 := by rw [← hq6]; exact Kp.refl _
  clear hq6
  have K6 := Lib.hid ((show Kp W0 _ from (by first | with_reducible exact K5.out | with_reducible exact K5.out.trans (Kp.alloc _ _) | with_reducible exact (K5.out.trans (Kp.alloc _ _)).trans (Kp.alloc _ _) | with_reducible exact ((K5.out.trans (Kp.alloc _ _)).trans (Kp.alloc _ _)).trans (Kp.alloc _ _) | with_reducible exact K5.out.trans (Kp.drew _) | with_reducible exact K5.out.trans (Kp.drewN _ _))).trans kk)
  have G3_6 := Lib.hid (G3_5.out.trans ((show Kp w5 _ from (by first | with_reducible exact Kp.refl _ | with_reducible exact Kp.alloc _ _ | with_reducible exact (Kp.alloc _ _).trans (Kp.alloc _ _) | with_reducible exact ((Kp.alloc _ _).trans (Kp.alloc _ _)).trans (Kp.alloc _ _) | with_reducible exact Kp.drew _ | with_reducible exact Kp.drewN _ _)).trans kk))
  have G4_6 := Lib.hid (G4_5.out.trans ((show Kp w5 _ from (by first | with_reducible exact Kp.refl _ | with_reducible exact Kp.alloc _ _ | with_reducible exact (Kp.alloc _ _).trans (Kp.alloc _ _) | with_reducible exact ((Kp.alloc _ _).trans (Kp.alloc _ _)).trans (Kp.alloc _ _) | with_reducible exact Kp.drew _ | with_reducible exact Kp.drewN _ _)).trans kk))
  clear kk
  clear c0 c1 c2 c3
  obtain ⟨c0, c1, c2, c3⟩ := HB.out w6 K6.out
  go_wp2_with fail
  refine (CNXH.out _ _ _ (RS.out _ (G3_6.out.trans (by first | with_reducible exact Kp.refl _ | with_reducible exact Kp.alloc _ _ | with_reducible exact (Kp.alloc _ _).trans (Kp.alloc _ _) | with_reducible exact ((Kp.alloc _ _).trans (Kp.alloc _ _)).trans (Kp.alloc _ _) | with_reducible exact Kp.drew _ | with_reducible exact Kp.drewN _ _)))).mono ?_
  rintro e w7 ⟨rfl, kk⟩
  have K7 := Lib.hid ((show Kp W0 _ from (by first | with_reducible exact K6.out | with_reducible exact K6.out.trans (Kp.alloc _ _) | with_reducible exact (K6.out.trans (Kp.alloc _ _)).trans (Kp.alloc _ _) | with_reducible exact ((K6.out.trans (Kp.alloc _ _)).trans (Kp.alloc _ _)).trans (Kp.alloc _ _) | with_reducible exact K6.out.trans (Kp.drew _) | with_reducible exact K6.out.trans (Kp.drewN _ _))).trans kk)
  have G3_7 := Lib.hid (G3_6.out.trans ((show Kp w6 _ from (by first | with_reducible exact Kp.refl _ | with_reducible exact Kp.alloc _ _ | with_reducible exact (Kp.alloc _ _).trans (Kp.alloc _ _) | with_reducible exact ((Kp.alloc _ _).trans (Kp.alloc _ _)).trans (Kp.alloc _ _) | with_reducible exact Kp.drew _ | with_reducible exact Kp.drewN _ _)).trans kk))
  have G4_7 := Lib.hid (G4_6.out.trans ((show Kp w6 _ from (by first | with_reducible exact Kp.refl _ | with_reducible exact Kp.alloc _ _ | with_reducible exact (Kp.alloc _ _).trans (Kp.alloc _ _) | with_reducible exact ((Kp.alloc _ _).trans (Kp.alloc _ _)).trans (Kp.alloc _ _) | with_reducible exact Kp.drew _ | with_reducible exact Kp.drewN _ _)).trans kk))
  clear kk
  clear c0 c1 c2 c3
  obtain ⟨c0, c1, c2, c3⟩ := HB.out w7 K7.out
  go_wp2_with fail
  refine (CSn.out _ _ (RN.out _ (G4_7.out.trans (by first | with_reducible exact Kp.refl _ | with_reducible exact Kp.alloc _ _ | with_reducible exact (Kp.alloc _ _).trans (Kp.alloc _ _) | with_reducible exact ((Kp.alloc _ _).trans (Kp.alloc _ _)).trans (Kp.alloc _ _) | with_reducible exact Kp.drew _ | with_reducible exact Kp.drewN _ _)))).mono ?_
  rintro e w8 ⟨rfl, kk⟩
  have K8 := Lib.hid ((show Kp W0 _ from (by first | with_reducible exact K7.out | with_reducible exact K7.out.trans (Kp.alloc _ _) | with_reducible exact (K7.out.trans (Kp.alloc _ _)).trans (Kp.alloc _ _) | with_reducible exact ((K7.out.trans (Kp.alloc _ _)).trans (Kp.alloc _ _)).trans (Kp.alloc _ _) | with_reducible exact K7.out.trans (Kp.drew _) | with_reducible exact K7.out.trans (Kp.drewN _ _))).trans kk)
  have G3_8 := Lib.hid (G3_7.out.trans ((show Kp w7 _ from (by first | with_reducible exact Kp.refl _ | with_reducible exact Kp.alloc _ _ | with_reducible exact (Kp.alloc _ _).trans (Kp.alloc _ _) | with_reducible exact ((Kp.alloc _ _).trans (Kp.alloc _ _)).trans (Kp.alloc _ _) | with_reducible exact Kp.drew _ | with_reducible exact Kp.drewN _ _)).trans kk))
  have G4_8 := Lib.hid (G4_7.out.trans ((show Kp w7 _ from (by first | with_reducible exact Kp.refl _ | with_reducible exact Kp.alloc _ _ | with_reducible exact (Kp.alloc _ _).trans (Kp.alloc _ _) | with_reducible exact ((Kp.alloc _ _).trans (Kp.alloc _ _)).trans (Kp.alloc _ _) | with_reducible exact Kp.drew _ | with_reducible exact Kp.drewN _ _)).trans kk))
  clear kk
  clear c0 c1 c2 c3
  obtain ⟨c0, c1, c2, c3⟩ := HB.out w8 K8.out
  go_wp2_with fail
  refine (CHNH.out _ _ _ (RN.out _ (G4_8.out.trans (by first | with_reducible exact Kp.refl _ | with_reducible exact Kp.alloc _ _ | with_reducible exact (Kp.alloc _ _).trans (Kp.alloc _ _) | with_reducible exact ((Kp.alloc _ _).trans (Kp.alloc _ _)).trans (Kp.alloc _ _) | with_reducible exact Kp.drew _ | with_reducible exact Kp.drewN _ _)))).mono ?_
  rintro e w9 ⟨rfl, kk⟩
  have K9 := Lib.hid ((show Kp W0 _ from (by first | with_reducible exact K8.out | with_reducible exact K8.out.trans (Kp.alloc _ _) | with_reducible exact (K8.out.trans (Kp.alloc _ _)).trans (Kp.alloc _ _) | with_reducible exact ((K8.out.trans (Kp.alloc _ _)).trans (Kp.alloc _ _)).trans (Kp.alloc _ _) | with_reducible exact K8.out.trans (Kp.drew _) | with_reducible exact K8.out.trans (Kp.drewN _ _))).trans kk)
  have G3_9 := Lib.hid (G3_8.out.trans ((show Kp w8 _ from (by first | with_reducible exact Kp.refl _ | with_reducible exact Kp.alloc _ _ | with_reducible exact (Kp.alloc _ _).trans (Kp.alloc _ _) | with_reducible exact ((Kp.alloc _ _).trans (Kp.alloc _ _)).trans (Kp.alloc _ _) | with_reducible exact Kp.drew _ | with_reducible exact Kp.drewN _ _)).trans kk))
  have G4_9 := Lib.hid (G4_8.out.trans ((show Kp w8 _ from (by first | with_reducible exact Kp.refl _ | with_reducible exact Kp.alloc _ _ | with_reducible exact (Kp.alloc _ _).trans (Kp.alloc _ _) | with_reducible exact ((Kp.alloc _ _).trans (Kp.alloc _ _)).trans (Kp.alloc _ _) | with_reducible exact Kp.drew _ | with_reducible exact Kp.drewN _ _)).trans kk))
  clear kk
  clear c0 c1 c2 c3
  obtain ⟨c0, c1, c2, c3⟩ := HB.out w9 K9.out
  go_wp2_with fail
  refine (CHSH.out _ _ _ (RS.out _ (G3_9.out.trans (by first | with_reducible exact Kp.refl _ | with_reducible exact Kp.alloc _ _ | with_reducible exact (Kp.alloc _ _).trans (Kp.alloc _ _) | with_reducible exact ((Kp.alloc _ _).trans (Kp.alloc _ _)).trans (Kp.alloc _ _) | with_reducible exact Kp.drew _ | with_reducible exact Kp.drewN _ _)))).mono ?_
  rintro e w10 ⟨rfl, kk⟩
  have K10 := Lib.hid ((show Kp W0 _ from (by first | with_reducible exact K9.out | with_reducible exact K9.out.trans (Kp.alloc _ _) | with_reducible exact (K9.out.trans (Kp.alloc _ _)).trans (Kp.alloc _ _) | with_reducible exact ((K9.out.trans (Kp.alloc _ _)).trans (Kp.alloc _ _)).trans (Kp.alloc _ _) | with_reducible exact K9.out.trans (Kp.drew _) | with_reducible exact K9.out.trans (Kp.drewN _ _))).trans kk)
  have G3_10 := Lib.hid (G3_9.out.trans ((show Kp w9 _ from (by first | with_reducible exact Kp.refl _ | with_reducible exact Kp.alloc _ _ | with_reducible exact (Kp.alloc _ _).trans (Kp.alloc _ _) | with_reducible exact ((Kp.alloc _ _).trans (Kp.alloc _ _)).trans (Kp.alloc _ _) | with_reducible exact Kp.drew _ | with_reducible exact Kp.drewN _ _)).trans kk))
  have G4_10 := Lib.hid (G4_9.out.trans ((show Kp w9 _ from (by first | with_reducible exact Kp.refl _ | with_reducible exact Kp.alloc _ _ | with_reducible exact (Kp.alloc _ _).trans (Kp.alloc _ _) | with_reducible exact ((Kp.alloc _ _).trans (Kp.alloc _ _)).trans (Kp.alloc _ _) | with_reducible exact Kp.drew _ | with_reducible exact Kp.drewN _ _)).trans kk))
  clear kk
  clear c0 c1 c2 c3
  obtain ⟨c0, c1, c2, c3⟩ := HB.out w10 K10.out
  go_wp2
  go_ret
  exact ⟨rfl, K00.out.trans K10.out⟩
set_option maxHeartbeats 16000000 in
set_option maxRecDepth 100000 in
theorem near_in_at (p : PT) (i : Int) (w : World) (hp1 : -9223372036854775808 ≤ p.k) (hp2 : p.k ≤ 9223372036854775807) (hi1 : -9223372036854775808 ≤ i) (hi2 : i ≤ 9223372036854775807) (T : Tabs8 w) (hs : shortP p = true) (he : setE p = 0) (hf : nearE p = 0) (hN : nearS p = growR p) (hi : 0 ≤ i ∧ i < cnt p.k) (hok : (nxt (nf (setS p)) (i - radV p.k)).2 = true) (hb : decide ((nxt (nf (setS p)) (i - radV p.k)).1 ≤ i + radV p.k) = true) (hz : hasB (nf (setS p)) i = false) :
    Calls Tryd.prog 5 #[ptV p, .int .i64 i] w fun e w' => e = .returned (.bool true) ∧ Kp w w' := by
  have AW := Lib.hid (fun w1 (kk : Kp w w1) => awake08 w1 (T.kp kk))
  have SH := Lib.hid (fun w1 (kk : Kp w w1) => short_any p w1)
  rw [hs] at SH
  have ST := fun w1 (kk : Kp w w1) => pset_any p w1 (T.kp kk)
  have NR := fun w1 (kk : Kp w w1) => pnear_any p w1 (T.kp kk)
  rw [he] at ST
  rw [hf, hN] at NR
  have STH := Lib.hid ST
  have NRH := Lib.hid NR
  have CUc := Lib.hid (fun w1 (kk : Kp w w1) => countC p.k w1 (T.kp kk).1)
  have GL := growR_len p
  have GS := growR_sane p
  have SL := setS_len p
  have SI := setS_inn he
  have CHN := fun ad c w1 (h : RunsAt w1 (.slice ad (growR p).length c) (growR p)) => has_any ad c (growR p) i w1 h (sane_i64 GS) (by omega) hi1 hi2
  have CHS := fun ad c w1 (h : RunsAt w1 (.slice ad (setS p).length c) (setS p)) => has_any ad c (setS p) i w1 h (sane_i64 SI.1) (by omega) hi1 hi2
  have CSn := Lib.hid (fun v w1 (h : RunsAt w1 v (growR p)) => sane_yes v (growR p) w1 h GS)
  have ck := cnt_bd p.k
  have rb := radV_bd p.k
  have GH := growR_has he hi.1 hi.2
  have ON := own_near he hi.1 hi.2
  have NB := nxt_bd (l := nf (setS p)) (nf_sane _) (i - radV p.k) (by omega)
  have CNX := fun ad c w1 (h : RunsAt w1 (.slice ad (setS p).length c) (setS p)) => next_of ad (setS p).length c (nf (setS p)) (i - radV p.k) w1 (asS_any _ (setS p) w1 h (sane_i64 SI.1) (by omega)) (nf_sane _) (by have := nf_len (setS p); omega) (by omega) (by omega)
  have CRD := Lib.hid (fun w1 (kk : Kp w w1) => radius_any p.k w1 (T.kp kk))
  have g1 : decide (i < 0) = false := decide_eq_false (by omega)
  have g2 : decide (cnt p.k ≤ i) = false := decide_eq_false (by omega)
  have g3 : decide (i ≥ cnt p.k) = false := decide_eq_false (by omega)
  generalize hasB (nf (growR p)) i = hn at *
  generalize hasB (nf (setS p)) i = hh at *
  generalize nxt (nf (setS p)) (i - radV p.k) = nx at *
  obtain ⟨na, ok⟩ := nx
  simp only at GH NB hok hb CNX
  subst hok
  rw [Bool.true_and, hb] at GH
  subst GH
  subst hz
  have CHNH := Lib.hid CHN
  have CHSH := Lib.hid CHS
  have CNXH := Lib.hid CNX
  generalize cnt p.k = cu at *
  generalize radV p.k = rk at *
  generalize growR p = G at *
  generalize setS p = S at *
  obtain ⟨hi3, hi4⟩ := hi
  clear hs he hf hN T ST NR GL GS SL SI CHN CHS CNX ON
  obtain ⟨kp, yp, mp, dp⟩ := p
  unfold ptV at *
  simp only at *
  obtain ⟨W0, hW⟩ : ∃ W0, W0 = w.alloc (.cells #[.int .i64 kp, .string yp, .string mp, .string dp] 23) := ⟨_, rfl⟩
  have K00 := Lib.hid (show Kp w W0 by rw [hW]; exact Kp.alloc _ _)
  have HB := Lib.hid (fun w1 (k : Kp W0 w1) => show w1.cell? ⟨w.heap.size, 0, none⟩ = some (.int .i64 kp) ∧ w1.cell? ⟨w.heap.size, 1, none⟩ = some (.string yp) ∧ w1.cell? ⟨w.heap.size, 2, none⟩ = some (.string mp) ∧ w1.cell? ⟨w.heap.size, 3, none⟩ = some (.string dp) from ⟨cell_up k (show W0.cell? ⟨w.heap.size, 0, none⟩ = some (.int .i64 kp) by rw [hW]; simp), cell_up k (show W0.cell? ⟨w.heap.size, 1, none⟩ = some (.string yp) by rw [hW]; simp), cell_up k (show W0.cell? ⟨w.heap.size, 2, none⟩ = some (.string mp) by rw [hW]; simp), cell_up k (show W0.cell? ⟨w.heap.size, 3, none⟩ = some (.string dp) by rw [hW]; simp)⟩)
  obtain ⟨c0, c1, c2, c3⟩ := HB.out W0 (Kp.refl _)
  have K0 := Lib.hid (Kp.refl W0)
  have HW := Lib.hid hW
  clear hW
  go_enter Tryd.func5, Tryd.ntmps5
  go_wp2_with fail
  rw [← HW.out]
  refine (AW.out _ (K00.out.trans (by first | with_reducible exact K0.out | with_reducible exact K0.out.trans (Kp.alloc _ _) | with_reducible exact (K0.out.trans (Kp.alloc _ _)).trans (Kp.alloc _ _) | with_reducible exact ((K0.out.trans (Kp.alloc _ _)).trans (Kp.alloc _ _)).trans (Kp.alloc _ _) | with_reducible exact K0.out.trans (Kp.drew _) | with_reducible exact K0.out.trans (Kp.drewN _ _)))).mono ?_
  rintro e w1 ⟨rfl, kk⟩
  have K1 := Lib.hid ((show Kp W0 _ from (by first | with_reducible exact K0.out | with_reducible exact K0.out.trans (Kp.alloc _ _) | with_reducible exact (K0.out.trans (Kp.alloc _ _)).trans (Kp.alloc _ _) | with_reducible exact ((K0.out.trans (Kp.alloc _ _)).trans (Kp.alloc _ _)).trans (Kp.alloc _ _) | with_reducible exact K0.out.trans (Kp.drew _) | with_reducible exact K0.out.trans (Kp.drewN _ _))).trans kk)
  clear kk
  clear c0 c1 c2 c3
  obtain ⟨c0, c1, c2, c3⟩ := HB.out w1 K1.out
  go_wp2_with fail
  refine (SH.out _ (K00.out.trans (by first | with_reducible exact K1.out | with_reducible exact K1.out.trans (Kp.alloc _ _) | with_reducible exact (K1.out.trans (Kp.alloc _ _)).trans (Kp.alloc _ _) | with_reducible exact ((K1.out.trans (Kp.alloc _ _)).trans (Kp.alloc _ _)).trans (Kp.alloc _ _) | with_reducible exact K1.out.trans (Kp.drew _) | with_reducible exact K1.out.trans (Kp.drewN _ _)))).mono ?_
  rintro e w2 ⟨rfl, kk⟩
  have K2 := Lib.hid ((show Kp W0 _ from (by first | with_reducible exact K1.out | with_reducible exact K1.out.trans (Kp.alloc _ _) | with_reducible exact (K1.out.trans (Kp.alloc _ _)).trans (Kp.alloc _ _) | with_reducible exact ((K1.out.trans (Kp.alloc _ _)).trans (Kp.alloc _ _)).trans (Kp.alloc _ _) | with_reducible exact K1.out.trans (Kp.drew _) | with_reducible exact K1.out.trans (Kp.drewN _ _))).trans kk)
  clear kk
  clear c0 c1 c2 c3
  obtain ⟨c0, c1, c2, c3⟩ := HB.out w2 K2.out
  go_wp2_with fail
  refine (STH.out _ (K00.out.trans (by first | with_reducible exact K2.out | with_reducible exact K2.out.trans (Kp.alloc _ _) | with_reducible exact (K2.out.trans (Kp.alloc _ _)).trans (Kp.alloc _ _) | with_reducible exact ((K2.out.trans (Kp.alloc _ _)).trans (Kp.alloc _ _)).trans (Kp.alloc _ _) | with_reducible exact K2.out.trans (Kp.drew _) | with_reducible exact K2.out.trans (Kp.drewN _ _)))).mono ?_
  rintro e w3 ⟨v3, rfl, own3, kk⟩
  have K3 := Lib.hid ((show Kp W0 _ from (by first | with_reducible exact K2.out | with_reducible exact K2.out.trans (Kp.alloc _ _) | with_reducible exact (K2.out.trans (Kp.alloc _ _)).trans (Kp.alloc _ _) | with_reducible exact ((K2.out.trans (Kp.alloc _ _)).trans (Kp.alloc _ _)).trans (Kp.alloc _ _) | with_reducible exact K2.out.trans (Kp.drew _) | with_reducible exact K2.out.trans (Kp.drewN _ _))).trans kk)
  have RS := Lib.hid (fun w1 (q : Kp w3 w1) => (runsAt_own own3).kp q)
  obtain ⟨aS, cS, rfl⟩ := own_slice own3
  clear own3
  clear kk
  clear c0 c1 c2 c3
  obtain ⟨c0, c1, c2, c3⟩ := HB.out w3 K3.out
  have G3_3 := Lib.hid (Kp.refl w3)
  go_wp2_with fail
  refine (NRH.out _ (K00.out.trans (by first | with_reducible exact K3.out | with_reducible exact K3.out.trans (Kp.alloc _ _) | with_reducible exact (K3.out.trans (Kp.alloc _ _)).trans (Kp.alloc _ _) | with_reducible exact ((K3.out.trans (Kp.alloc _ _)).trans (Kp.alloc _ _)).trans (Kp.alloc _ _) | with_reducible exact K3.out.trans (Kp.drew _) | with_reducible exact K3.out.trans (Kp.drewN _ _)))).mono ?_
  rintro e w4 ⟨v4, rfl, own4, kk⟩
  have K4 := Lib.hid ((show Kp W0 _ from (by first | with_reducible exact K3.out | with_reducible exact K3.out.trans (Kp.alloc _ _) | with_reducible exact (K3.out.trans (Kp.alloc _ _)).trans (Kp.alloc _ _) | with_reducible exact ((K3.out.trans (Kp.alloc _ _)).trans (Kp.alloc _ _)).trans (Kp.alloc _ _) | with_reducible exact K3.out.trans (Kp.drew _) | with_reducible exact K3.out.trans (Kp.drewN _ _))).trans kk)
  have G3_4 := Lib.hid (G3_3.out.trans ((show Kp w3 _ from (by first | with_reducible exact Kp.refl _ | with_reducible exact Kp.alloc _ _ | with_reducible exact (Kp.alloc _ _).trans (Kp.alloc _ _) | with_reducible exact ((Kp.alloc _ _).trans (Kp.alloc _ _)).trans (Kp.alloc _ _) | with_reducible exact Kp.drew _ | with_reducible exact Kp.drewN _ _)).trans kk))
  have RN := Lib.hid (fun w1 (q : Kp w4 w1) => (runsAt_own own4).kp q)
  obtain ⟨aN, cN, rfl⟩ := own_slice own4
  clear own4
  clear kk
  clear c0 c1 c2 c3
  obtain ⟨c0, c1, c2, c3⟩ := HB.out w4 K4.out
  have G4_4 := Lib.hid (Kp.refl w4)
  go_wp2_with fail
  refine (CUc.out _ (K00.out.trans (by first | with_reducible exact K4.out | with_reducible exact K4.out.trans (Kp.alloc _ _) | with_reducible exact (K4.out.trans (Kp.alloc _ _)).trans (Kp.alloc _ _) | with_reducible exact ((K4.out.trans (Kp.alloc _ _)).trans (Kp.alloc _ _)).trans (Kp.alloc _ _) | with_reducible exact K4.out.trans (Kp.drew _) | with_reducible exact K4.out.trans (Kp.drewN _ _)))).mono ?_
  rintro e w5 ⟨rfl, kk⟩
  have K5 := Lib.hid ((show Kp W0 _ from (by first | with_reducible exact K4.out | with_reducible exact K4.out.trans (Kp.alloc _ _) | with_reducible exact (K4.out.trans (Kp.alloc _ _)).trans (Kp.alloc _ _) | with_reducible exact ((K4.out.trans (Kp.alloc _ _)).trans (Kp.alloc _ _)).trans (Kp.alloc _ _) | with_reducible exact K4.out.trans (Kp.drew _) | with_reducible exact K4.out.trans (Kp.drewN _ _))).trans kk)
  have G3_5 := Lib.hid (G3_4.out.trans ((show Kp w4 _ from (by first | with_reducible exact Kp.refl _ | with_reducible exact Kp.alloc _ _ | with_reducible exact (Kp.alloc _ _).trans (Kp.alloc _ _) | with_reducible exact ((Kp.alloc _ _).trans (Kp.alloc _ _)).trans (Kp.alloc _ _) | with_reducible exact Kp.drew _ | with_reducible exact Kp.drewN _ _)).trans kk))
  have G4_5 := Lib.hid (G4_4.out.trans ((show Kp w4 _ from (by first | with_reducible exact Kp.refl _ | with_reducible exact Kp.alloc _ _ | with_reducible exact (Kp.alloc _ _).trans (Kp.alloc _ _) | with_reducible exact ((Kp.alloc _ _).trans (Kp.alloc _ _)).trans (Kp.alloc _ _) | with_reducible exact Kp.drew _ | with_reducible exact Kp.drewN _ _)).trans kk))
  clear kk
  clear c0 c1 c2 c3
  obtain ⟨c0, c1, c2, c3⟩ := HB.out w5 K5.out
  go_wp2_with fail
  refine (CRD.out _ (K00.out.trans (by first | with_reducible exact K5.out | with_reducible exact K5.out.trans (Kp.alloc _ _) | with_reducible exact (K5.out.trans (Kp.alloc _ _)).trans (Kp.alloc _ _) | with_reducible exact ((K5.out.trans (Kp.alloc _ _)).trans (Kp.alloc _ _)).trans (Kp.alloc _ _) | with_reducible exact K5.out.trans (Kp.drew _) | with_reducible exact K5.out.trans (Kp.drewN _ _)))).mono ?_
  rintro e w6 ⟨rfl, hq6⟩
  have kk : Kp w5 w6 := by rw [← hq6]; exact Kp.refl _
  clear hq6
  have K6 := Lib.hid ((show Kp W0 _ from (by first | with_reducible exact K5.out | with_reducible exact K5.out.trans (Kp.alloc _ _) | with_reducible exact (K5.out.trans (Kp.alloc _ _)).trans (Kp.alloc _ _) | with_reducible exact ((K5.out.trans (Kp.alloc _ _)).trans (Kp.alloc _ _)).trans (Kp.alloc _ _) | with_reducible exact K5.out.trans (Kp.drew _) | with_reducible exact K5.out.trans (Kp.drewN _ _))).trans kk)
  have G3_6 := Lib.hid (G3_5.out.trans ((show Kp w5 _ from (by first | with_reducible exact Kp.refl _ | with_reducible exact Kp.alloc _ _ | with_reducible exact (Kp.alloc _ _).trans (Kp.alloc _ _) | with_reducible exact ((Kp.alloc _ _).trans (Kp.alloc _ _)).trans (Kp.alloc _ _) | with_reducible exact Kp.drew _ | with_reducible exact Kp.drewN _ _)).trans kk))
  have G4_6 := Lib.hid (G4_5.out.trans ((show Kp w5 _ from (by first | with_reducible exact Kp.refl _ | with_reducible exact Kp.alloc _ _ | with_reducible exact (Kp.alloc _ _).trans (Kp.alloc _ _) | with_reducible exact ((Kp.alloc _ _).trans (Kp.alloc _ _)).trans (Kp.alloc _ _) | with_reducible exact Kp.drew _ | with_reducible exact Kp.drewN _ _)).trans kk))
  clear kk
  clear c0 c1 c2 c3
  obtain ⟨c0, c1, c2, c3⟩ := HB.out w6 K6.out
  go_wp2_with fail
  refine (CNXH.out _ _ _ (RS.out _ (G3_6.out.trans (by first | with_reducible exact Kp.refl _ | with_reducible exact Kp.alloc _ _ | with_reducible exact (Kp.alloc _ _).trans (Kp.alloc _ _) | with_reducible exact ((Kp.alloc _ _).trans (Kp.alloc _ _)).trans (Kp.alloc _ _) | with_reducible exact Kp.drew _ | with_reducible exact Kp.drewN _ _)))).mono ?_
  rintro e w7 ⟨rfl, kk⟩
  have K7 := Lib.hid ((show Kp W0 _ from (by first | with_reducible exact K6.out | with_reducible exact K6.out.trans (Kp.alloc _ _) | with_reducible exact (K6.out.trans (Kp.alloc _ _)).trans (Kp.alloc _ _) | with_reducible exact ((K6.out.trans (Kp.alloc _ _)).trans (Kp.alloc _ _)).trans (Kp.alloc _ _) | with_reducible exact K6.out.trans (Kp.drew _) | with_reducible exact K6.out.trans (Kp.drewN _ _))).trans kk)
  have G3_7 := Lib.hid (G3_6.out.trans ((show Kp w6 _ from (by first | with_reducible exact Kp.refl _ | with_reducible exact Kp.alloc _ _ | with_reducible exact (Kp.alloc _ _).trans (Kp.alloc _ _) | with_reducible exact ((Kp.alloc _ _).trans (Kp.alloc _ _)).trans (Kp.alloc _ _) | with_reducible exact Kp.drew _ | with_reducible exact Kp.drewN _ _)).trans kk))
  have G4_7 := Lib.hid (G4_6.out.trans ((show Kp w6 _ from (by first | with_reducible exact Kp.refl _ | with_reducible exact Kp.alloc _ _ | with_reducible exact (Kp.alloc _ _).trans (Kp.alloc _ _) | with_reducible exact ((Kp.alloc _ _).trans (Kp.alloc _ _)).trans (Kp.alloc _ _) | with_reducible exact Kp.drew _ | with_reducible exact Kp.drewN _ _)).trans kk))
  clear kk
  clear c0 c1 c2 c3
  obtain ⟨c0, c1, c2, c3⟩ := HB.out w7 K7.out
  go_wp2_with fail
  refine (CSn.out _ _ (RN.out _ (G4_7.out.trans (by first | with_reducible exact Kp.refl _ | with_reducible exact Kp.alloc _ _ | with_reducible exact (Kp.alloc _ _).trans (Kp.alloc _ _) | with_reducible exact ((Kp.alloc _ _).trans (Kp.alloc _ _)).trans (Kp.alloc _ _) | with_reducible exact Kp.drew _ | with_reducible exact Kp.drewN _ _)))).mono ?_
  rintro e w8 ⟨rfl, kk⟩
  have K8 := Lib.hid ((show Kp W0 _ from (by first | with_reducible exact K7.out | with_reducible exact K7.out.trans (Kp.alloc _ _) | with_reducible exact (K7.out.trans (Kp.alloc _ _)).trans (Kp.alloc _ _) | with_reducible exact ((K7.out.trans (Kp.alloc _ _)).trans (Kp.alloc _ _)).trans (Kp.alloc _ _) | with_reducible exact K7.out.trans (Kp.drew _) | with_reducible exact K7.out.trans (Kp.drewN _ _))).trans kk)
  have G3_8 := Lib.hid (G3_7.out.trans ((show Kp w7 _ from (by first | with_reducible exact Kp.refl _ | with_reducible exact Kp.alloc _ _ | with_reducible exact (Kp.alloc _ _).trans (Kp.alloc _ _) | with_reducible exact ((Kp.alloc _ _).trans (Kp.alloc _ _)).trans (Kp.alloc _ _) | with_reducible exact Kp.drew _ | with_reducible exact Kp.drewN _ _)).trans kk))
  have G4_8 := Lib.hid (G4_7.out.trans ((show Kp w7 _ from (by first | with_reducible exact Kp.refl _ | with_reducible exact Kp.alloc _ _ | with_reducible exact (Kp.alloc _ _).trans (Kp.alloc _ _) | with_reducible exact ((Kp.alloc _ _).trans (Kp.alloc _ _)).trans (Kp.alloc _ _) | with_reducible exact Kp.drew _ | with_reducible exact Kp.drewN _ _)).trans kk))
  clear kk
  clear c0 c1 c2 c3
  obtain ⟨c0, c1, c2, c3⟩ := HB.out w8 K8.out
  go_wp2_with fail
  refine (CHNH.out _ _ _ (RN.out _ (G4_8.out.trans (by first | with_reducible exact Kp.refl _ | with_reducible exact Kp.alloc _ _ | with_reducible exact (Kp.alloc _ _).trans (Kp.alloc _ _) | with_reducible exact ((Kp.alloc _ _).trans (Kp.alloc _ _)).trans (Kp.alloc _ _) | with_reducible exact Kp.drew _ | with_reducible exact Kp.drewN _ _)))).mono ?_
  rintro e w9 ⟨rfl, kk⟩
  have K9 := Lib.hid ((show Kp W0 _ from (by first | with_reducible exact K8.out | with_reducible exact K8.out.trans (Kp.alloc _ _) | with_reducible exact (K8.out.trans (Kp.alloc _ _)).trans (Kp.alloc _ _) | with_reducible exact ((K8.out.trans (Kp.alloc _ _)).trans (Kp.alloc _ _)).trans (Kp.alloc _ _) | with_reducible exact K8.out.trans (Kp.drew _) | with_reducible exact K8.out.trans (Kp.drewN _ _))).trans kk)
  have G3_9 := Lib.hid (G3_8.out.trans ((show Kp w8 _ from (by first | with_reducible exact Kp.refl _ | with_reducible exact Kp.alloc _ _ | with_reducible exact (Kp.alloc _ _).trans (Kp.alloc _ _) | with_reducible exact ((Kp.alloc _ _).trans (Kp.alloc _ _)).trans (Kp.alloc _ _) | with_reducible exact Kp.drew _ | with_reducible exact Kp.drewN _ _)).trans kk))
  have G4_9 := Lib.hid (G4_8.out.trans ((show Kp w8 _ from (by first | with_reducible exact Kp.refl _ | with_reducible exact Kp.alloc _ _ | with_reducible exact (Kp.alloc _ _).trans (Kp.alloc _ _) | with_reducible exact ((Kp.alloc _ _).trans (Kp.alloc _ _)).trans (Kp.alloc _ _) | with_reducible exact Kp.drew _ | with_reducible exact Kp.drewN _ _)).trans kk))
  clear kk
  clear c0 c1 c2 c3
  obtain ⟨c0, c1, c2, c3⟩ := HB.out w9 K9.out
  go_wp2_with fail
  refine (CHSH.out _ _ _ (RS.out _ (G3_9.out.trans (by first | with_reducible exact Kp.refl _ | with_reducible exact Kp.alloc _ _ | with_reducible exact (Kp.alloc _ _).trans (Kp.alloc _ _) | with_reducible exact ((Kp.alloc _ _).trans (Kp.alloc _ _)).trans (Kp.alloc _ _) | with_reducible exact Kp.drew _ | with_reducible exact Kp.drewN _ _)))).mono ?_
  rintro e w10 ⟨rfl, kk⟩
  have K10 := Lib.hid ((show Kp W0 _ from (by first | with_reducible exact K9.out | with_reducible exact K9.out.trans (Kp.alloc _ _) | with_reducible exact (K9.out.trans (Kp.alloc _ _)).trans (Kp.alloc _ _) | with_reducible exact ((K9.out.trans (Kp.alloc _ _)).trans (Kp.alloc _ _)).trans (Kp.alloc _ _) | with_reducible exact K9.out.trans (Kp.drew _) | with_reducible exact K9.out.trans (Kp.drewN _ _))).trans kk)
  have G3_10 := Lib.hid (G3_9.out.trans ((show Kp w9 _ from (by first | with_reducible exact Kp.refl _ | with_reducible exact Kp.alloc _ _ | with_reducible exact (Kp.alloc _ _).trans (Kp.alloc _ _) | with_reducible exact ((Kp.alloc _ _).trans (Kp.alloc _ _)).trans (Kp.alloc _ _) | with_reducible exact Kp.drew _ | with_reducible exact Kp.drewN _ _)).trans kk))
  have G4_10 := Lib.hid (G4_9.out.trans ((show Kp w9 _ from (by first | with_reducible exact Kp.refl _ | with_reducible exact Kp.alloc _ _ | with_reducible exact (Kp.alloc _ _).trans (Kp.alloc _ _) | with_reducible exact ((Kp.alloc _ _).trans (Kp.alloc _ _)).trans (Kp.alloc _ _) | with_reducible exact Kp.drew _ | with_reducible exact Kp.drewN _ _)).trans kk))
  clear kk
  clear c0 c1 c2 c3
  obtain ⟨c0, c1, c2, c3⟩ := HB.out w10 K10.out
  go_wp2
  go_ret
  exact ⟨rfl, K00.out.trans K10.out⟩
set_option maxHeartbeats 16000000 in
set_option maxRecDepth 100000 in
theorem near_in_in (p : PT) (i : Int) (w : World) (hp1 : -9223372036854775808 ≤ p.k) (hp2 : p.k ≤ 9223372036854775807) (hi1 : -9223372036854775808 ≤ i) (hi2 : i ≤ 9223372036854775807) (T : Tabs8 w) (hs : shortP p = true) (he : setE p = 0) (hf : nearE p = 0) (hN : nearS p = growR p) (hi : 0 ≤ i ∧ i < cnt p.k) (hok : (nxt (nf (setS p)) (i - radV p.k)).2 = true) (hb : decide ((nxt (nf (setS p)) (i - radV p.k)).1 ≤ i + radV p.k) = true) (hz : hasB (nf (setS p)) i = true) :
    Calls Tryd.prog 5 #[ptV p, .int .i64 i] w fun e w' => e = .returned (.bool true) ∧ Kp w w' := by
  have AW := Lib.hid (fun w1 (kk : Kp w w1) => awake08 w1 (T.kp kk))
  have SH := Lib.hid (fun w1 (kk : Kp w w1) => short_any p w1)
  rw [hs] at SH
  have ST := fun w1 (kk : Kp w w1) => pset_any p w1 (T.kp kk)
  have NR := fun w1 (kk : Kp w w1) => pnear_any p w1 (T.kp kk)
  rw [he] at ST
  rw [hf, hN] at NR
  have STH := Lib.hid ST
  have NRH := Lib.hid NR
  have CUc := Lib.hid (fun w1 (kk : Kp w w1) => countC p.k w1 (T.kp kk).1)
  have GL := growR_len p
  have GS := growR_sane p
  have SL := setS_len p
  have SI := setS_inn he
  have CHN := fun ad c w1 (h : RunsAt w1 (.slice ad (growR p).length c) (growR p)) => has_any ad c (growR p) i w1 h (sane_i64 GS) (by omega) hi1 hi2
  have CHS := fun ad c w1 (h : RunsAt w1 (.slice ad (setS p).length c) (setS p)) => has_any ad c (setS p) i w1 h (sane_i64 SI.1) (by omega) hi1 hi2
  have CSn := Lib.hid (fun v w1 (h : RunsAt w1 v (growR p)) => sane_yes v (growR p) w1 h GS)
  have ck := cnt_bd p.k
  have rb := radV_bd p.k
  have GH := growR_has he hi.1 hi.2
  have ON := own_near he hi.1 hi.2
  have NB := nxt_bd (l := nf (setS p)) (nf_sane _) (i - radV p.k) (by omega)
  have CNX := fun ad c w1 (h : RunsAt w1 (.slice ad (setS p).length c) (setS p)) => next_of ad (setS p).length c (nf (setS p)) (i - radV p.k) w1 (asS_any _ (setS p) w1 h (sane_i64 SI.1) (by omega)) (nf_sane _) (by have := nf_len (setS p); omega) (by omega) (by omega)
  have CRD := Lib.hid (fun w1 (kk : Kp w w1) => radius_any p.k w1 (T.kp kk))
  have g1 : decide (i < 0) = false := decide_eq_false (by omega)
  have g2 : decide (cnt p.k ≤ i) = false := decide_eq_false (by omega)
  have g3 : decide (i ≥ cnt p.k) = false := decide_eq_false (by omega)
  generalize hasB (nf (growR p)) i = hn at *
  generalize hasB (nf (setS p)) i = hh at *
  generalize nxt (nf (setS p)) (i - radV p.k) = nx at *
  obtain ⟨na, ok⟩ := nx
  simp only at GH NB hok hb CNX
  subst hok
  rw [Bool.true_and, hb] at GH
  subst GH
  subst hz
  have CHNH := Lib.hid CHN
  have CHSH := Lib.hid CHS
  have CNXH := Lib.hid CNX
  generalize cnt p.k = cu at *
  generalize radV p.k = rk at *
  generalize growR p = G at *
  generalize setS p = S at *
  obtain ⟨hi3, hi4⟩ := hi
  clear hs he hf hN T ST NR GL GS SL SI CHN CHS CNX ON
  obtain ⟨kp, yp, mp, dp⟩ := p
  unfold ptV at *
  simp only at *
  obtain ⟨W0, hW⟩ : ∃ W0, W0 = w.alloc (.cells #[.int .i64 kp, .string yp, .string mp, .string dp] 23) := ⟨_, rfl⟩
  have K00 := Lib.hid (show Kp w W0 by rw [hW]; exact Kp.alloc _ _)
  have HB := Lib.hid (fun w1 (k : Kp W0 w1) => show w1.cell? ⟨w.heap.size, 0, none⟩ = some (.int .i64 kp) ∧ w1.cell? ⟨w.heap.size, 1, none⟩ = some (.string yp) ∧ w1.cell? ⟨w.heap.size, 2, none⟩ = some (.string mp) ∧ w1.cell? ⟨w.heap.size, 3, none⟩ = some (.string dp) from ⟨cell_up k (show W0.cell? ⟨w.heap.size, 0, none⟩ = some (.int .i64 kp) by rw [hW]; simp), cell_up k (show W0.cell? ⟨w.heap.size, 1, none⟩ = some (.string yp) by rw [hW]; simp), cell_up k (show W0.cell? ⟨w.heap.size, 2, none⟩ = some (.string mp) by rw [hW]; simp), cell_up k (show W0.cell? ⟨w.heap.size, 3, none⟩ = some (.string dp) by rw [hW]; simp)⟩)
  obtain ⟨c0, c1, c2, c3⟩ := HB.out W0 (Kp.refl _)
  have K0 := Lib.hid (Kp.refl W0)
  have HW := Lib.hid hW
  clear hW
  go_enter Tryd.func5, Tryd.ntmps5
  go_wp2_with fail
  rw [← HW.out]
  refine (AW.out _ (K00.out.trans (by first | with_reducible exact K0.out | with_reducible exact K0.out.trans (Kp.alloc _ _) | with_reducible exact (K0.out.trans (Kp.alloc _ _)).trans (Kp.alloc _ _) | with_reducible exact ((K0.out.trans (Kp.alloc _ _)).trans (Kp.alloc _ _)).trans (Kp.alloc _ _) | with_reducible exact K0.out.trans (Kp.drew _) | with_reducible exact K0.out.trans (Kp.drewN _ _)))).mono ?_
  rintro e w1 ⟨rfl, kk⟩
  have K1 := Lib.hid ((show Kp W0 _ from (by first | with_reducible exact K0.out | with_reducible exact K0.out.trans (Kp.alloc _ _) | with_reducible exact (K0.out.trans (Kp.alloc _ _)).trans (Kp.alloc _ _) | with_reducible exact ((K0.out.trans (Kp.alloc _ _)).trans (Kp.alloc _ _)).trans (Kp.alloc _ _) | with_reducible exact K0.out.trans (Kp.drew _) | with_reducible exact K0.out.trans (Kp.drewN _ _))).trans kk)
  clear kk
  clear c0 c1 c2 c3
  obtain ⟨c0, c1, c2, c3⟩ := HB.out w1 K1.out
  go_wp2_with fail
  refine (SH.out _ (K00.out.trans (by first | with_reducible exact K1.out | with_reducible exact K1.out.trans (Kp.alloc _ _) | with_reducible exact (K1.out.trans (Kp.alloc _ _)).trans (Kp.alloc _ _) | with_reducible exact ((K1.out.trans (Kp.alloc _ _)).trans (Kp.alloc _ _)).trans (Kp.alloc _ _) | with_reducible exact K1.out.trans (Kp.drew _) | with_reducible exact K1.out.trans (Kp.drewN _ _)))).mono ?_
  rintro e w2 ⟨rfl, kk⟩
  have K2 := Lib.hid ((show Kp W0 _ from (by first | with_reducible exact K1.out | with_reducible exact K1.out.trans (Kp.alloc _ _) | with_reducible exact (K1.out.trans (Kp.alloc _ _)).trans (Kp.alloc _ _) | with_reducible exact ((K1.out.trans (Kp.alloc _ _)).trans (Kp.alloc _ _)).trans (Kp.alloc _ _) | with_reducible exact K1.out.trans (Kp.drew _) | with_reducible exact K1.out.trans (Kp.drewN _ _))).trans kk)
  clear kk
  clear c0 c1 c2 c3
  obtain ⟨c0, c1, c2, c3⟩ := HB.out w2 K2.out
  go_wp2_with fail
  refine (STH.out _ (K00.out.trans (by first | with_reducible exact K2.out | with_reducible exact K2.out.trans (Kp.alloc _ _) | with_reducible exact (K2.out.trans (Kp.alloc _ _)).trans (Kp.alloc _ _) | with_reducible exact ((K2.out.trans (Kp.alloc _ _)).trans (Kp.alloc _ _)).trans (Kp.alloc _ _) | with_reducible exact K2.out.trans (Kp.drew _) | with_reducible exact K2.out.trans (Kp.drewN _ _)))).mono ?_
  rintro e w3 ⟨v3, rfl, own3, kk⟩
  have K3 := Lib.hid ((show Kp W0 _ from (by first | with_reducible exact K2.out | with_reducible exact K2.out.trans (Kp.alloc _ _) | with_reducible exact (K2.out.trans (Kp.alloc _ _)).trans (Kp.alloc _ _) | with_reducible exact ((K2.out.trans (Kp.alloc _ _)).trans (Kp.alloc _ _)).trans (Kp.alloc _ _) | with_reducible exact K2.out.trans (Kp.drew _) | with_reducible exact K2.out.trans (Kp.drewN _ _))).trans kk)
  have RS := Lib.hid (fun w1 (q : Kp w3 w1) => (runsAt_own own3).kp q)
  obtain ⟨aS, cS, rfl⟩ := own_slice own3
  clear own3
  clear kk
  clear c0 c1 c2 c3
  obtain ⟨c0, c1, c2, c3⟩ := HB.out w3 K3.out
  have G3_3 := Lib.hid (Kp.refl w3)
  go_wp2_with fail
  refine (NRH.out _ (K00.out.trans (by first | with_reducible exact K3.out | with_reducible exact K3.out.trans (Kp.alloc _ _) | with_reducible exact (K3.out.trans (Kp.alloc _ _)).trans (Kp.alloc _ _) | with_reducible exact ((K3.out.trans (Kp.alloc _ _)).trans (Kp.alloc _ _)).trans (Kp.alloc _ _) | with_reducible exact K3.out.trans (Kp.drew _) | with_reducible exact K3.out.trans (Kp.drewN _ _)))).mono ?_
  rintro e w4 ⟨v4, rfl, own4, kk⟩
  have K4 := Lib.hid ((show Kp W0 _ from (by first | with_reducible exact K3.out | with_reducible exact K3.out.trans (Kp.alloc _ _) | with_reducible exact (K3.out.trans (Kp.alloc _ _)).trans (Kp.alloc _ _) | with_reducible exact ((K3.out.trans (Kp.alloc _ _)).trans (Kp.alloc _ _)).trans (Kp.alloc _ _) | with_reducible exact K3.out.trans (Kp.drew _) | with_reducible exact K3.out.trans (Kp.drewN _ _))).trans kk)
  have G3_4 := Lib.hid (G3_3.out.trans ((show Kp w3 _ from (by first | with_reducible exact Kp.refl _ | with_reducible exact Kp.alloc _ _ | with_reducible exact (Kp.alloc _ _).trans (Kp.alloc _ _) | with_reducible exact ((Kp.alloc _ _).trans (Kp.alloc _ _)).trans (Kp.alloc _ _) | with_reducible exact Kp.drew _ | with_reducible exact Kp.drewN _ _)).trans kk))
  have RN := Lib.hid (fun w1 (q : Kp w4 w1) => (runsAt_own own4).kp q)
  obtain ⟨aN, cN, rfl⟩ := own_slice own4
  clear own4
  clear kk
  clear c0 c1 c2 c3
  obtain ⟨c0, c1, c2, c3⟩ := HB.out w4 K4.out
  have G4_4 := Lib.hid (Kp.refl w4)
  go_wp2_with fail
  refine (CUc.out _ (K00.out.trans (by first | with_reducible exact K4.out | with_reducible exact K4.out.trans (Kp.alloc _ _) | with_reducible exact (K4.out.trans (Kp.alloc _ _)).trans (Kp.alloc _ _) | with_reducible exact ((K4.out.trans (Kp.alloc _ _)).trans (Kp.alloc _ _)).trans (Kp.alloc _ _) | with_reducible exact K4.out.trans (Kp.drew _) | with_reducible exact K4.out.trans (Kp.drewN _ _)))).mono ?_
  rintro e w5 ⟨rfl, kk⟩
  have K5 := Lib.hid ((show Kp W0 _ from (by first | with_reducible exact K4.out | with_reducible exact K4.out.trans (Kp.alloc _ _) | with_reducible exact (K4.out.trans (Kp.alloc _ _)).trans (Kp.alloc _ _) | with_reducible exact ((K4.out.trans (Kp.alloc _ _)).trans (Kp.alloc _ _)).trans (Kp.alloc _ _) | with_reducible exact K4.out.trans (Kp.drew _) | with_reducible exact K4.out.trans (Kp.drewN _ _))).trans kk)
  have G3_5 := Lib.hid (G3_4.out.trans ((show Kp w4 _ from (by first | with_reducible exact Kp.refl _ | with_reducible exact Kp.alloc _ _ | with_reducible exact (Kp.alloc _ _).trans (Kp.alloc _ _) | with_reducible exact ((Kp.alloc _ _).trans (Kp.alloc _ _)).trans (Kp.alloc _ _) | with_reducible exact Kp.drew _ | with_reducible exact Kp.drewN _ _)).trans kk))
  have G4_5 := Lib.hid (G4_4.out.trans ((show Kp w4 _ from (by first | with_reducible exact Kp.refl _ | with_reducible exact Kp.alloc _ _ | with_reducible exact (Kp.alloc _ _).trans (Kp.alloc _ _) | with_reducible exact ((Kp.alloc _ _).trans (Kp.alloc _ _)).trans (Kp.alloc _ _) | with_reducible exact Kp.drew _ | with_reducible exact Kp.drewN _ _)).trans kk))
  clear kk
  clear c0 c1 c2 c3
  obtain ⟨c0, c1, c2, c3⟩ := HB.out w5 K5.out
  go_wp2_with fail
  refine (CRD.out _ (K00.out.trans (by first | with_reducible exact K5.out | with_reducible exact K5.out.trans (Kp.alloc _ _) | with_reducible exact (K5.out.trans (Kp.alloc _ _)).trans (Kp.alloc _ _) | with_reducible exact ((K5.out.trans (Kp.alloc _ _)).trans (Kp.alloc _ _)).trans (Kp.alloc _ _) | with_reducible exact K5.out.trans (Kp.drew _) | with_reducible exact K5.out.trans (Kp.drewN _ _)))).mono ?_
  rintro e w6 ⟨rfl, hq6⟩
  have kk : Kp w5 w6 := by rw [← hq6]; exact Kp.refl _
  clear hq6
  have K6 := Lib.hid ((show Kp W0 _ from (by first | with_reducible exact K5.out | with_reducible exact K5.out.trans (Kp.alloc _ _) | with_reducible exact (K5.out.trans (Kp.alloc _ _)).trans (Kp.alloc _ _) | with_reducible exact ((K5.out.trans (Kp.alloc _ _)).trans (Kp.alloc _ _)).trans (Kp.alloc _ _) | with_reducible exact K5.out.trans (Kp.drew _) | with_reducible exact K5.out.trans (Kp.drewN _ _))).trans kk)
  have G3_6 := Lib.hid (G3_5.out.trans ((show Kp w5 _ from (by first | with_reducible exact Kp.refl _ | with_reducible exact Kp.alloc _ _ | with_reducible exact (Kp.alloc _ _).trans (Kp.alloc _ _) | with_reducible exact ((Kp.alloc _ _).trans (Kp.alloc _ _)).trans (Kp.alloc _ _) | with_reducible exact Kp.drew _ | with_reducible exact Kp.drewN _ _)).trans kk))
  have G4_6 := Lib.hid (G4_5.out.trans ((show Kp w5 _ from (by first | with_reducible exact Kp.refl _ | with_reducible exact Kp.alloc _ _ | with_reducible exact (Kp.alloc _ _).trans (Kp.alloc _ _) | with_reducible exact ((Kp.alloc _ _).trans (Kp.alloc _ _)).trans (Kp.alloc _ _) | with_reducible exact Kp.drew _ | with_reducible exact Kp.drewN _ _)).trans kk))
  clear kk
  clear c0 c1 c2 c3
  obtain ⟨c0, c1, c2, c3⟩ := HB.out w6 K6.out
  go_wp2_with fail
  refine (CNXH.out _ _ _ (RS.out _ (G3_6.out.trans (by first | with_reducible exact Kp.refl _ | with_reducible exact Kp.alloc _ _ | with_reducible exact (Kp.alloc _ _).trans (Kp.alloc _ _) | with_reducible exact ((Kp.alloc _ _).trans (Kp.alloc _ _)).trans (Kp.alloc _ _) | with_reducible exact Kp.drew _ | with_reducible exact Kp.drewN _ _)))).mono ?_
  rintro e w7 ⟨rfl, kk⟩
  have K7 := Lib.hid ((show Kp W0 _ from (by first | with_reducible exact K6.out | with_reducible exact K6.out.trans (Kp.alloc _ _) | with_reducible exact (K6.out.trans (Kp.alloc _ _)).trans (Kp.alloc _ _) | with_reducible exact ((K6.out.trans (Kp.alloc _ _)).trans (Kp.alloc _ _)).trans (Kp.alloc _ _) | with_reducible exact K6.out.trans (Kp.drew _) | with_reducible exact K6.out.trans (Kp.drewN _ _))).trans kk)
  have G3_7 := Lib.hid (G3_6.out.trans ((show Kp w6 _ from (by first | with_reducible exact Kp.refl _ | with_reducible exact Kp.alloc _ _ | with_reducible exact (Kp.alloc _ _).trans (Kp.alloc _ _) | with_reducible exact ((Kp.alloc _ _).trans (Kp.alloc _ _)).trans (Kp.alloc _ _) | with_reducible exact Kp.drew _ | with_reducible exact Kp.drewN _ _)).trans kk))
  have G4_7 := Lib.hid (G4_6.out.trans ((show Kp w6 _ from (by first | with_reducible exact Kp.refl _ | with_reducible exact Kp.alloc _ _ | with_reducible exact (Kp.alloc _ _).trans (Kp.alloc _ _) | with_reducible exact ((Kp.alloc _ _).trans (Kp.alloc _ _)).trans (Kp.alloc _ _) | with_reducible exact Kp.drew _ | with_reducible exact Kp.drewN _ _)).trans kk))
  clear kk
  clear c0 c1 c2 c3
  obtain ⟨c0, c1, c2, c3⟩ := HB.out w7 K7.out
  go_wp2_with fail
  refine (CSn.out _ _ (RN.out _ (G4_7.out.trans (by first | with_reducible exact Kp.refl _ | with_reducible exact Kp.alloc _ _ | with_reducible exact (Kp.alloc _ _).trans (Kp.alloc _ _) | with_reducible exact ((Kp.alloc _ _).trans (Kp.alloc _ _)).trans (Kp.alloc _ _) | with_reducible exact Kp.drew _ | with_reducible exact Kp.drewN _ _)))).mono ?_
  rintro e w8 ⟨rfl, kk⟩
  have K8 := Lib.hid ((show Kp W0 _ from (by first | with_reducible exact K7.out | with_reducible exact K7.out.trans (Kp.alloc _ _) | with_reducible exact (K7.out.trans (Kp.alloc _ _)).trans (Kp.alloc _ _) | with_reducible exact ((K7.out.trans (Kp.alloc _ _)).trans (Kp.alloc _ _)).trans (Kp.alloc _ _) | with_reducible exact K7.out.trans (Kp.drew _) | with_reducible exact K7.out.trans (Kp.drewN _ _))).trans kk)
  have G3_8 := Lib.hid (G3_7.out.trans ((show Kp w7 _ from (by first | with_reducible exact Kp.refl _ | with_reducible exact Kp.alloc _ _ | with_reducible exact (Kp.alloc _ _).trans (Kp.alloc _ _) | with_reducible exact ((Kp.alloc _ _).trans (Kp.alloc _ _)).trans (Kp.alloc _ _) | with_reducible exact Kp.drew _ | with_reducible exact Kp.drewN _ _)).trans kk))
  have G4_8 := Lib.hid (G4_7.out.trans ((show Kp w7 _ from (by first | with_reducible exact Kp.refl _ | with_reducible exact Kp.alloc _ _ | with_reducible exact (Kp.alloc _ _).trans (Kp.alloc _ _) | with_reducible exact ((Kp.alloc _ _).trans (Kp.alloc _ _)).trans (Kp.alloc _ _) | with_reducible exact Kp.drew _ | with_reducible exact Kp.drewN _ _)).trans kk))
  clear kk
  clear c0 c1 c2 c3
  obtain ⟨c0, c1, c2, c3⟩ := HB.out w8 K8.out
  go_wp2_with fail
  refine (CHNH.out _ _ _ (RN.out _ (G4_8.out.trans (by first | with_reducible exact Kp.refl _ | with_reducible exact Kp.alloc _ _ | with_reducible exact (Kp.alloc _ _).trans (Kp.alloc _ _) | with_reducible exact ((Kp.alloc _ _).trans (Kp.alloc _ _)).trans (Kp.alloc _ _) | with_reducible exact Kp.drew _ | with_reducible exact Kp.drewN _ _)))).mono ?_
  rintro e w9 ⟨rfl, kk⟩
  have K9 := Lib.hid ((show Kp W0 _ from (by first | with_reducible exact K8.out | with_reducible exact K8.out.trans (Kp.alloc _ _) | with_reducible exact (K8.out.trans (Kp.alloc _ _)).trans (Kp.alloc _ _) | with_reducible exact ((K8.out.trans (Kp.alloc _ _)).trans (Kp.alloc _ _)).trans (Kp.alloc _ _) | with_reducible exact K8.out.trans (Kp.drew _) | with_reducible exact K8.out.trans (Kp.drewN _ _))).trans kk)
  have G3_9 := Lib.hid (G3_8.out.trans ((show Kp w8 _ from (by first | with_reducible exact Kp.refl _ | with_reducible exact Kp.alloc _ _ | with_reducible exact (Kp.alloc _ _).trans (Kp.alloc _ _) | with_reducible exact ((Kp.alloc _ _).trans (Kp.alloc _ _)).trans (Kp.alloc _ _) | with_reducible exact Kp.drew _ | with_reducible exact Kp.drewN _ _)).trans kk))
  have G4_9 := Lib.hid (G4_8.out.trans ((show Kp w8 _ from (by first | with_reducible exact Kp.refl _ | with_reducible exact Kp.alloc _ _ | with_reducible exact (Kp.alloc _ _).trans (Kp.alloc _ _) | with_reducible exact ((Kp.alloc _ _).trans (Kp.alloc _ _)).trans (Kp.alloc _ _) | with_reducible exact Kp.drew _ | with_reducible exact Kp.drewN _ _)).trans kk))
  clear kk
  clear c0 c1 c2 c3
  obtain ⟨c0, c1, c2, c3⟩ := HB.out w9 K9.out
  go_wp2_with fail
  refine (CHSH.out _ _ _ (RS.out _ (G3_9.out.trans (by first | with_reducible exact Kp.refl _ | with_reducible exact Kp.alloc _ _ | with_reducible exact (Kp.alloc _ _).trans (Kp.alloc _ _) | with_reducible exact ((Kp.alloc _ _).trans (Kp.alloc _ _)).trans (Kp.alloc _ _) | with_reducible exact Kp.drew _ | with_reducible exact Kp.drewN _ _)))).mono ?_
  rintro e w10 ⟨rfl, kk⟩
  have K10 := Lib.hid ((show Kp W0 _ from (by first | with_reducible exact K9.out | with_reducible exact K9.out.trans (Kp.alloc _ _) | with_reducible exact (K9.out.trans (Kp.alloc _ _)).trans (Kp.alloc _ _) | with_reducible exact ((K9.out.trans (Kp.alloc _ _)).trans (Kp.alloc _ _)).trans (Kp.alloc _ _) | with_reducible exact K9.out.trans (Kp.drew _) | with_reducible exact K9.out.trans (Kp.drewN _ _))).trans kk)
  have G3_10 := Lib.hid (G3_9.out.trans ((show Kp w9 _ from (by first | with_reducible exact Kp.refl _ | with_reducible exact Kp.alloc _ _ | with_reducible exact (Kp.alloc _ _).trans (Kp.alloc _ _) | with_reducible exact ((Kp.alloc _ _).trans (Kp.alloc _ _)).trans (Kp.alloc _ _) | with_reducible exact Kp.drew _ | with_reducible exact Kp.drewN _ _)).trans kk))
  have G4_10 := Lib.hid (G4_9.out.trans ((show Kp w9 _ from (by first | with_reducible exact Kp.refl _ | with_reducible exact Kp.alloc _ _ | with_reducible exact (Kp.alloc _ _).trans (Kp.alloc _ _) | with_reducible exact ((Kp.alloc _ _).trans (Kp.alloc _ _)).trans (Kp.alloc _ _) | with_reducible exact Kp.drew _ | with_reducible exact Kp.drewN _ _)).trans kk))
  clear kk
  clear c0 c1 c2 c3
  obtain ⟨c0, c1, c2, c3⟩ := HB.out w10 K10.out
  go_wp2_with fail
  refine (CHNH.out _ _ _ (RN.out _ (G4_10.out.trans (by first | with_reducible exact Kp.refl _ | with_reducible exact Kp.alloc _ _ | with_reducible exact (Kp.alloc _ _).trans (Kp.alloc _ _) | with_reducible exact ((Kp.alloc _ _).trans (Kp.alloc _ _)).trans (Kp.alloc _ _) | with_reducible exact Kp.drew _ | with_reducible exact Kp.drewN _ _)))).mono ?_
  rintro e w11 ⟨rfl, kk⟩
  have K11 := Lib.hid ((show Kp W0 _ from (by first | with_reducible exact K10.out | with_reducible exact K10.out.trans (Kp.alloc _ _) | with_reducible exact (K10.out.trans (Kp.alloc _ _)).trans (Kp.alloc _ _) | with_reducible exact ((K10.out.trans (Kp.alloc _ _)).trans (Kp.alloc _ _)).trans (Kp.alloc _ _) | with_reducible exact K10.out.trans (Kp.drew _) | with_reducible exact K10.out.trans (Kp.drewN _ _))).trans kk)
  have G3_11 := Lib.hid (G3_10.out.trans ((show Kp w10 _ from (by first | with_reducible exact Kp.refl _ | with_reducible exact Kp.alloc _ _ | with_reducible exact (Kp.alloc _ _).trans (Kp.alloc _ _) | with_reducible exact ((Kp.alloc _ _).trans (Kp.alloc _ _)).trans (Kp.alloc _ _) | with_reducible exact Kp.drew _ | with_reducible exact Kp.drewN _ _)).trans kk))
  have G4_11 := Lib.hid (G4_10.out.trans ((show Kp w10 _ from (by first | with_reducible exact Kp.refl _ | with_reducible exact Kp.alloc _ _ | with_reducible exact (Kp.alloc _ _).trans (Kp.alloc _ _) | with_reducible exact ((Kp.alloc _ _).trans (Kp.alloc _ _)).trans (Kp.alloc _ _) | with_reducible exact Kp.drew _ | with_reducible exact Kp.drewN _ _)).trans kk))
  clear kk
  clear c0 c1 c2 c3
  obtain ⟨c0, c1, c2, c3⟩ := HB.out w11 K11.out
  go_wp2
  go_ret
  exact ⟨rfl, K00.out.trans K11.out⟩
theorem pointNear_walk (p : PT) (i : Int) (w : World) (h1 : -9223372036854775808 ≤ p.k) (h2 : p.k ≤ 9223372036854775807) (h3 : -9223372036854775808 ≤ i) (h4 : i ≤ 9223372036854775807) (T : Tabs8 w) :
    Calls Tryd.prog 5 #[ptV p, .int .i64 i] w fun e w' => e = .returned (.bool true) ∧ Kp w w' := by
  rcases Bool.eq_false_or_eq_true (shortP p) with hs | hs
  · rcases nearE_cases p with ⟨he, hf, hN, hR⟩ | ⟨he, hf, hN⟩ | ⟨he, hf, hN⟩
    · exact near_e p i w h1 h2 h3 h4 T hs he hf hN hR
    · exact near_f p i w h1 h2 h3 h4 T hs he hf hN
    · by_cases c : i < 0
      · exact near_lo p i w h1 h2 h3 h4 T hs he hf hN c
      · by_cases d : cnt p.k ≤ i
        · exact near_hi p i w h1 h2 h3 h4 T hs he hf hN ⟨by omega, d⟩
        · have hi : 0 ≤ i ∧ i < cnt p.k := by omega
          rcases Bool.eq_false_or_eq_true (nxt (nf (setS p)) (i - radV p.k)).2 with a | a
          · rcases Bool.eq_false_or_eq_true (decide ((nxt (nf (setS p)) (i - radV p.k)).1 ≤ i + radV p.k)) with b | b
            · rcases Bool.eq_false_or_eq_true (hasB (nf (setS p)) i) with c | c
              · exact near_in_in p i w h1 h2 h3 h4 T hs he hf hN hi a b c
              · exact near_in_at p i w h1 h2 h3 h4 T hs he hf hN hi a b c
            · exact near_in_far p i w h1 h2 h3 h4 T hs he hf hN hi a b
          · exact near_in_no p i w h1 h2 h3 h4 T hs he hf hN hi a
  · exact near_0 p i w h1 h2 h3 h4 T hs
end Go.Proofs.YtbjnghmmfolaeaaDoor
